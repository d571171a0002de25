/- A slice of texts that came in: how it reads; the laws' own helpers that weigh it and copy it. No condition of its own. -/
import Derived.Test.YtihlflhgbnfkkaaGreatDoorText
import Derived.Deep.Strs
import Derived.Deep.OwnRows
namespace Go.Proofs.YtihlflhgbnfkkaaGreatDoor
open Go.ChangeShapes Go.WideShapes Go.ChangeAt Go.WideMaps Go.WideElems Go.RowKit

def ArgT (w : World) (v : Value) (ps : List (List UInt8)) : Prop :=
  ∃ a cap, v = .slice a ps.length cap ∧ ps.length ≤ cap ∧ cap ≤ maxLen ∧ (0 < ps.length → ∃ b off, a = some ⟨b, off, none⟩ ∧ b < w.heap.size ∧ ∀ j (hj : j < ps.length), w.cell? ⟨b, off + j, none⟩ = some (strV ps[j]))
theorem ArgT.below {w w' : World} {v : Value} {ps : List (List UInt8)} (h : ArgT w v ps) (hb : Below w.heap.size w w') : ArgT w' v ps := by
  obtain ⟨a, cap, rfl, h1, h2, h3⟩ := h
  refine ⟨a, cap, rfl, h1, h2, fun h0 => ?_⟩
  obtain ⟨b, off, rfl, h4, h5⟩ := h3 h0
  exact ⟨b, off, rfl, Nat.lt_of_lt_of_le h4 hb.size, fun j hj => (hb.cell (p := ⟨b, off + j, none⟩) h4).trans (h5 j hj)⟩
theorem strings_in {H : Type} {enc : TypeId × Value → H} {P : Program} {W : World} {base : Nat} {t e : TypeId} {v : Value} {d : DataW H} {qs : List MemPlace} (ht : P.underlying t = some (.slice e)) (he : P.underlying e = some .string) (hc : P.cellsOf e = 1)
    (hv : Value.okWide P W .any base t v) (hd : DataW.Trod enc P W 0 (fun _ => true) true t v d qs) : ∃ ps : List (List UInt8), ArgT W v ps ∧ ∀ x ∈ ps, x.length ≤ maxLen := by
  obtain ⟨a, len, cap, rfl⟩ := okWide_slice ht hv
  obtain ⟨fuel, hf⟩ := hd
  rcases Go.Deep.open_strs ht he hc hf with ⟨hcs, _⟩ | ⟨a1, len1, cap1, m, Sx, hcs, _, hl, hm, hmm, _, hcell⟩
  · simp [Value.cells] at hcs
    obtain ⟨rfl, rfl, rfl⟩ := hcs
    exact ⟨[], ⟨none, 0, rfl, Nat.le_refl _, Nat.zero_le _, fun h => absurd h (by simp)⟩, by simp⟩
  · simp [Value.cells] at hcs
    obtain ⟨rfl, rfl, rfl⟩ := hcs
    have hlm : len ≤ m := by rw [hmm]; split <;> omega
    have hlen : ((List.range len).map fun i => (Sx i).data.toList).length = len := by simp
    refine ⟨(List.range len).map fun i => (Sx i).data.toList, ⟨some a1, cap, by rw [hlen], by rw [hlen]; exact hl, hm, fun h0 => ?_⟩, ?_⟩
    · rw [hlen] at h0
      obtain ⟨b, off, spot⟩ := a1
      have hspot : spot = none := by simpa [Addr.add] using World.cell?_spot (hcell 0 (by omega)).1
      subst hspot
      have hc2 : ∀ j, j < len → W.cell? ⟨b, off + j, none⟩ = some (.string (Sx j)) := fun j hj => by
        rw [← Go.WideShapes.add_plain]
        exact (hcell j (by omega)).1
      refine ⟨b, off, rfl, World.block_lt_of_cell? W _ (hc2 0 h0), fun j hj => ?_⟩
      rw [hc2 j (by simpa using hj), strV_data]
      simp
    · intro x hx
      obtain ⟨i, hi, rfl⟩ := List.mem_map.1 hx
      have := (hcell i (by have := List.mem_range.1 hi; omega)).2
      simpa using this
/-- How much a list of texts weighs. -/
def weighL (ps : List (List UInt8)) : Nat := ps.length + lenL ps
theorem lenL_take {ps : List (List UInt8)} {k : Nat} (h : k < ps.length) : lenL (ps.take (k + 1)) = lenL (ps.take k) + ps[k].length := by
  rw [List.take_succ_eq_append_getElem h, lenL_append]
  simp [lenL]
theorem lenL_take_le (ps : List (List UInt8)) (k : Nat) : lenL (ps.take k) ≤ lenL ps := by
  have := lenL_append (ps.take k) (ps.drop k)
  rw [List.take_append_drop] at this
  omega
def SzRel (w : World) (ps : List (List UInt8)) (L : Nat) (left i : Value) (wr : World) : Prop := ∃ k : Nat, k ≤ ps.length ∧ i = .int .i64 k ∧ ps.length + lenL (ps.take k) ≤ L ∧ left = .int .i64 (L - ps.length - lenL (ps.take k)) ∧ wr = w
def SzPost (w : World) (ps : List (List UInt8)) (L : Nat) (e : Ending) (w' : World) : Prop := ∃ r : Int, e = .returned (.int .i64 r) ∧ (weighL ps ≤ L → 0 ≤ r) ∧ (¬ weighL ps ≤ L → r = -1) ∧ w = w'
theorem made_free (w : World) (z : Value) (n : Nat) (e : TypeId) (t : Nat) : (w.alloc (.cells (madeCells #[z] n) e)).frozen? ⟨w.heap.size, t, none⟩ = false := frozen_none (heap_alloc_new w _) t
theorem made_cell (w : World) (z : Value) (n : Nat) (e : TypeId) (t : Nat) (h : t < n) : ∃ u, (w.alloc (.cells (madeCells #[z] n) e)).cell? ⟨w.heap.size, t, none⟩ = some u := by
  have hs : (madeCells #[z] n).size = n := by simp [madeCells]
  refine ⟨(madeCells #[z] n)[t]'(by omega), ?_⟩
  rw [World.cell?_alloc_at _ _ _ _ rfl]
  exact Array.getElem?_eq_getElem (by omega)
/-- What has been copied behind k texts. -/
def CopyRel (w : World) (ps : List (List UInt8)) (i : Value) (wr : World) : Prop :=
  ∃ j : Nat, j ≤ ps.length ∧ i = .int .i64 j ∧ (∀ t, t < ps.length → wr.frozen? ⟨w.heap.size, t, none⟩ = false) ∧ (∀ t (ht : t < ps.length), t < j → wr.cell? ⟨w.heap.size, t, none⟩ = some (strV ps[t])) ∧ (∀ t, t < ps.length → ∃ u, wr.cell? ⟨w.heap.size, t, none⟩ = some u) ∧ Below w.heap.size w wr ∧ w.heap.size < wr.heap.size
/-- A row of texts with a length that its capacity bears. -/
def RowC (w : World) (B : Nat) (v : Value) (ps : List (List UInt8)) : Prop := RowT w B v ps ∧ ∃ a cap, v = .slice a ps.length cap ∧ ps.length ≤ cap ∧ cap ≤ maxLen
theorem RowC.below {w w' : World} {B : Nat} {v : Value} {ps : List (List UInt8)} (h : RowC w B v ps) (hb : Below w.heap.size w w') : RowC w' B v ps := ⟨h.1.below hb, h.2⟩
theorem RowC.more {w : World} {B B' : Nat} {v : Value} {ps : List (List UInt8)} (h : RowC w B v ps) (hB : B' ≤ B) : RowC w B' v ps := ⟨h.1.more hB, h.2⟩
theorem RowT.front {w : World} {B : Nat} {a : Option Addr} {n cap : Nat} {ps : List (List UInt8)} (h : RowT w B (.slice a n cap) ps) {k : Nat} (hk : k ≤ ps.length) (c : Nat) : RowT w B (.slice a k c) (ps.take k) := by
  obtain ⟨a2, cap2, e, h⟩ := h
  injection e with e1 e2 e3
  subst e1
  have hl : (ps.take k).length = k := by rw [List.length_take]; omega
  refine ⟨a, c, by rw [hl], fun h0 => ?_⟩
  rw [hl] at h0
  obtain ⟨g, h1, h2, h3, h4, h5⟩ := h (by omega)
  refine ⟨g, h1, h2, h3, fun j hj => h4 j (by omega), fun j hj => ?_⟩
  rw [h5 j (by omega), List.getElem_take]
end Go.Proofs.YtihlflhgbnfkkaaGreatDoor
