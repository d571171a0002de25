/- A slice of texts that came in: how it reads; the laws' own helpers that weigh it and copy it. No condition of its own. -/
import Derived.Test.YtcaabnnkjnleeaaDoorText
import Derived.Deep.Strs
import Derived.Deep.OwnRows
namespace Go.Proofs.YtcaabnnkjnleeaaDoor
open Go.ChangeShapes Go.WideShapes Go.ChangeAt Go.WideMaps Go.WideElems Go.RowKit

def ArgT (w : World) (v : Value) (ps : List (List UInt8)) : Prop :=
  ∃ a cap, v = .slice a ps.length cap ∧ ps.length ≤ cap ∧ cap ≤ maxLen ∧ (0 < ps.length → ∃ b off, a = some ⟨b, off, none⟩ ∧ b < w.heap.size ∧ ∀ j (hj : j < ps.length), w.cell? ⟨b, off + j, none⟩ = some (strV ps[j]))
theorem ArgT.below {w w' : World} {v : Value} {ps : List (List UInt8)} (h : ArgT w v ps) (hb : Below w.heap.size w w') : ArgT w' v ps := by
  obtain ⟨a, cap, rfl, h1, h2, h3⟩ := h
  refine ⟨a, cap, rfl, h1, h2, fun h0 => ?_⟩
  obtain ⟨b, off, rfl, h4, h5⟩ := h3 h0
  exact ⟨b, off, rfl, Nat.lt_of_lt_of_le h4 hb.size, fun j hj => (hb.cell (p := ⟨b, off + j, none⟩) h4).trans (h5 j hj)⟩
theorem strings_in {H : Type} {enc : TypeId × Value → H} {P : Program} {W : World} {base : Nat} {t e : TypeId} {v : Value} {d : DataW H} {qs : List MemPlace} (ht : P.underlying t = some (.slice e)) (he : P.underlying e = some .string) (hc : P.cellsOf e = 1)
    (hv : Value.okWide P W .any base t v) (hd : DataW.Trod enc P W 0 (fun _ => true) true t v d qs) : ∃ ps : List (List UInt8), ArgT W v ps ∧ ∀ x ∈ ps, x.length ≤ maxLen := by
  obtain ⟨a, len, cap, rfl⟩ := okWide_slice ht hv
  obtain ⟨fuel, hf⟩ := hd
  rcases Go.Deep.open_strs ht he hc hf with ⟨hcs, _⟩ | ⟨a1, len1, cap1, m, Sx, hcs, _, hl, hm, hmm, _, hcell⟩
  · simp [Value.cells] at hcs
    obtain ⟨rfl, rfl, rfl⟩ := hcs
    exact ⟨[], ⟨none, 0, rfl, Nat.le_refl _, Nat.zero_le _, fun h => absurd h (by simp)⟩, by simp⟩
  · simp [Value.cells] at hcs
    obtain ⟨rfl, rfl, rfl⟩ := hcs
    have hlm : len ≤ m := by rw [hmm]; split <;> omega
    have hlen : ((List.range len).map fun i => (Sx i).data.toList).length = len := by simp
    refine ⟨(List.range len).map fun i => (Sx i).data.toList, ⟨some a1, cap, by rw [hlen], by rw [hlen]; exact hl, hm, fun h0 => ?_⟩, ?_⟩
    · rw [hlen] at h0
      obtain ⟨b, off, spot⟩ := a1
      have hspot : spot = none := by simpa [Addr.add] using World.cell?_spot (hcell 0 (by omega)).1
      subst hspot
      have hc2 : ∀ j, j < len → W.cell? ⟨b, off + j, none⟩ = some (.string (Sx j)) := fun j hj => by
        rw [← Go.WideShapes.add_plain]
        exact (hcell j (by omega)).1
      refine ⟨b, off, rfl, World.block_lt_of_cell? W _ (hc2 0 h0), fun j hj => ?_⟩
      rw [hc2 j (by simpa using hj), strV_data]
      simp
    · intro x hx
      obtain ⟨i, hi, rfl⟩ := List.mem_map.1 hx
      have := (hcell i (by have := List.mem_range.1 hi; omega)).2
      simpa using this
/-- How much a list of texts weighs. -/
def weighL (ps : List (List UInt8)) : Nat := ps.length + lenL ps
theorem lenL_take {ps : List (List UInt8)} {k : Nat} (h : k < ps.length) : lenL (ps.take (k + 1)) = lenL (ps.take k) + ps[k].length := by
  rw [List.take_succ_eq_append_getElem h, lenL_append]
  simp [lenL]
theorem lenL_take_le (ps : List (List UInt8)) (k : Nat) : lenL (ps.take k) ≤ lenL ps := by
  have := lenL_append (ps.take k) (ps.drop k)
  rw [List.take_append_drop] at this
  omega
def SzRel (w : World) (ps : List (List UInt8)) (L : Nat) (left i : Value) (wr : World) : Prop := ∃ k : Nat, k ≤ ps.length ∧ i = .int .i64 k ∧ ps.length + lenL (ps.take k) ≤ L ∧ left = .int .i64 (L - ps.length - lenL (ps.take k)) ∧ wr = w
def SzPost (w : World) (ps : List (List UInt8)) (L : Nat) (e : Ending) (w' : World) : Prop := ∃ r : Int, e = .returned (.int .i64 r) ∧ (weighL ps ≤ L → 0 ≤ r) ∧ (¬ weighL ps ≤ L → r = -1) ∧ w = w'
theorem szStrings_any (v : Value) (ps : List (List UInt8)) (L : Nat) (w : World) (hL : L ≤ 1048576) (hv : ArgT w v ps) (hm : ∀ x ∈ ps, x.length ≤ maxLen) : Calls Tryd.prog 24 #[v, .int .i64 L] w (SzPost w ps L) := by
  obtain ⟨a, cap, rfl, hl, hc, hx⟩ := hv
  have HX := Lib.hid hx
  have HM := Lib.hid hm
  clear hx hm
  by_cases h0 : ps.length ≤ L
  · go_enter Tryd.func24, Tryd.ntmps24
    go_wp2
    go_loopw [1, 5] (fun left i wr => SzRel w ps L left i wr) (fun _ i _ => ps.length - (intOf i).toNat)
    case atStart => exact ⟨0, Nat.zero_le _, rfl, by simpa [lenL] using h0, by simp [lenL], rfl⟩
    case round =>
      obtain ⟨k, hk, rfl, hle, rfl, rfl⟩ := hrel
      by_cases hlt : k < ps.length
      · obtain ⟨b, off, rfl, hb, hcell⟩ := HX.out (by omega)
        obtain ⟨u, hu⟩ : ∃ u : ByteArray, u = ⟨ps[k].toArray⟩ := ⟨_, rfl⟩
        have c1 : wr.cell? ⟨b, off + k, none⟩ = some (.string u) := by rw [hu]; exact hcell k hlt
        have hus : u.size = ps[k].length := by rw [hu]; simp [ByteArray.size]
        have hmx := HM.out _ (List.getElem_mem hlt)
        have ht := lenL_take hlt
        have hki : (k : Int) < ps.length := by omega
        unfold maxLen at hmx
        clear hu hcell
        by_cases h2 : ps.length + lenL (ps.take (k + 1)) ≤ L
        · go_wp2
          go_roundw
          case rel => exact ⟨k + 1, by omega, by go_num, h2, by go_num, rfl⟩
          case measure => simp [intOf]; omega
        · go_wp2
          go_ret
          have := lenL_take_le ps (k + 1)
          exact ⟨-1, rfl, fun h => by unfold weighL at h; omega, fun _ => rfl, rfl⟩
      · obtain rfl : k = ps.length := by omega
        rw [List.take_of_length_le (Nat.le_refl _)] at hle ⊢
        go_wp2
        go_ret
        exact ⟨_, rfl, fun _ => by omega, fun h => absurd hle h, rfl⟩
  · have hneg : (L : Int) - (ps.length : Int) < 0 := by omega
    have hlow : -9223372036854775808 ≤ (L : Int) - (ps.length : Int) := by unfold maxLen at hc; omega
    go_enter Tryd.func24, Tryd.ntmps24
    go_wp2
    go_ret
    exact ⟨-1, rfl, fun h => by unfold weighL at h; omega, fun _ => rfl, rfl⟩
theorem made_free (w : World) (z : Value) (n : Nat) (e : TypeId) (t : Nat) : (w.alloc (.cells (madeCells #[z] n) e)).frozen? ⟨w.heap.size, t, none⟩ = false := frozen_none (heap_alloc_new w _) t
theorem made_cell (w : World) (z : Value) (n : Nat) (e : TypeId) (t : Nat) (h : t < n) : ∃ u, (w.alloc (.cells (madeCells #[z] n) e)).cell? ⟨w.heap.size, t, none⟩ = some u := by
  have hs : (madeCells #[z] n).size = n := by simp [madeCells]
  refine ⟨(madeCells #[z] n)[t]'(by omega), ?_⟩
  rw [World.cell?_alloc_at _ _ _ _ rfl]
  exact Array.getElem?_eq_getElem (by omega)
/-- What has been copied behind k texts. -/
def CopyRel (w : World) (ps : List (List UInt8)) (i : Value) (wr : World) : Prop :=
  ∃ j : Nat, j ≤ ps.length ∧ i = .int .i64 j ∧ (∀ t, t < ps.length → wr.frozen? ⟨w.heap.size, t, none⟩ = false) ∧ (∀ t (ht : t < ps.length), t < j → wr.cell? ⟨w.heap.size, t, none⟩ = some (strV ps[t])) ∧ (∀ t, t < ps.length → ∃ u, wr.cell? ⟨w.heap.size, t, none⟩ = some u) ∧ Below w.heap.size w wr ∧ w.heap.size < wr.heap.size
/-- A row of texts with a length that its capacity bears. -/
def RowC (w : World) (B : Nat) (v : Value) (ps : List (List UInt8)) : Prop := RowT w B v ps ∧ ∃ a cap, v = .slice a ps.length cap ∧ ps.length ≤ cap ∧ cap ≤ maxLen
theorem RowC.below {w w' : World} {B : Nat} {v : Value} {ps : List (List UInt8)} (h : RowC w B v ps) (hb : Below w.heap.size w w') : RowC w' B v ps := ⟨h.1.below hb, h.2⟩
theorem RowC.more {w : World} {B B' : Nat} {v : Value} {ps : List (List UInt8)} (h : RowC w B v ps) (hB : B' ≤ B) : RowC w B' v ps := ⟨h.1.more hB, h.2⟩
theorem RowT.front {w : World} {B : Nat} {a : Option Addr} {n cap : Nat} {ps : List (List UInt8)} (h : RowT w B (.slice a n cap) ps) {k : Nat} (hk : k ≤ ps.length) (c : Nat) : RowT w B (.slice a k c) (ps.take k) := by
  obtain ⟨a2, cap2, e, h⟩ := h
  injection e with e1 e2 e3
  subst e1
  have hl : (ps.take k).length = k := by rw [List.length_take]; omega
  refine ⟨a, c, by rw [hl], fun h0 => ?_⟩
  rw [hl] at h0
  obtain ⟨g, h1, h2, h3, h4, h5⟩ := h (by omega)
  refine ⟨g, h1, h2, h3, fun j hj => h4 j (by omega), fun j hj => ?_⟩
  rw [h5 j (by omega), List.getElem_take]
theorem toStrings_any (v : Value) (ps : List (List UInt8)) (w : World) (hl : ps.length ≤ 1048576) (hv : ArgT w v ps) : Calls Tryd.prog 26 #[v] w fun e w' => ∃ u, e = .returned u ∧ RowC w' w.heap.size u ps ∧ Below w.heap.size w w' := by
  obtain ⟨a, cap, rfl, hle, hcm, hx⟩ := hv
  have HX := Lib.hid hx
  clear hx
  have hmk := run_make_row' (P := Tryd.prog) 42 9 (.string ByteArray.empty) 16 Tryd.underlying42 info_string rfl .i64 .i64 ps.length (by omega) (by omega)
  have hrow := World.rowIs_made w (.string ByteArray.empty) ps.length 9
  have HR := Lib.hid hrow
  clear hrow
  go_enter Tryd.func26, Tryd.ntmps26
  go_wp2
  clear hmk
  go_loopw [4] (fun i wr => CopyRel w ps i wr) (fun i _ => ps.length - (intOf i).toNat)
  case atStart =>
    refine ⟨0, Nat.zero_le _, rfl, fun t ht => ?_, fun t _ ht => by omega, fun t ht => ?_, (Below.refl _ _).alloc (Nat.le_refl _) _, by simp⟩
    · exact made_free w _ _ _ t
    · exact made_cell w _ _ _ t ht
  case round =>
    obtain ⟨j, hj, rfl, hf, hm, hc, hb, hz⟩ := hrel
    have HF := Lib.hid hf
    have HM := Lib.hid hm
    have HC := Lib.hid hc
    have HB := Lib.hid hb
    clear hf hm hc hb
    by_cases hlt : j < ps.length
    · obtain ⟨b, off, rfl, hlb, hcell⟩ := HX.out (by omega)
      obtain ⟨u, hu⟩ : ∃ u : ByteArray, strV ps[j] = .string u := ⟨_, rfl⟩
      have HU := Lib.hid hu
      have c1 : wr.cell? ⟨b, off + j, none⟩ = some (.string u) := by rw [← hu]; exact (HB.out.cell (p := ⟨b, off + j, none⟩) hlb).trans (hcell j hlt)
      obtain ⟨old, hold⟩ := HC.out j hlt
      have hfz := HF.out j hlt
      have s1 : (j : Int) < ps.length := by omega
      clear hcell hu
      go_wp2
      go_roundw
      case rel =>
        refine ⟨j + 1, by omega, by go_num, fun t ht => ?_, fun t ht htj => ?_, fun t ht => ?_, HB.out.setCell (p := ⟨w.heap.size, j, none⟩) (Nat.le_refl _) _, by simp [World.setCell]; omega⟩
        · rw [World.frozen?_setCell]
          exact HF.out t ht
        · by_cases e : t = j
          · subst e
            rw [HU.out]
            exact World.cell?_setCell_same _ _ _ hold
          · rw [World.cell?_setCell_other _ _ _ _ (fun h => e (by injection h with _ h2; exact h2.symm))]
            exact HM.out t ht (by omega)
        · by_cases e : t = j
          · subst e
            exact ⟨_, World.cell?_setCell_same _ _ _ hold⟩
          · rw [World.cell?_setCell_other _ _ _ _ (fun h => e (by injection h with _ h2; exact h2.symm))]
            exact HC.out t ht
      case measure => simp [intOf]; omega
    · obtain rfl : j = ps.length := by omega
      go_wp2
      go_ret
      exact ⟨_, rfl, ⟨⟨_, _, rfl, fun _ => ⟨_, rfl, Nat.le_refl _, hz, HF.out, fun t ht => HM.out t ht ht⟩⟩, _, _, rfl, Nat.le_refl _, by unfold maxLen; omega⟩, HB.out⟩
end Go.Proofs.YtcaabnnkjnleeaaDoor
