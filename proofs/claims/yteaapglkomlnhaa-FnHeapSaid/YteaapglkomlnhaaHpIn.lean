/- A slice of slots: how it reads; the laws' own helpers that weigh it, copy it and compare it. No condition of its own. -/
import Derived.Test.YteaapglkomlnhaaHpMath
import Derived.Deep.Slices
import Derived.Deep.Fields
import Derived.ChangeSlices
import Derived.Deep.OwnRows
import Derived.Test.YteaapglkomlnhaaBelowCls
import Derived.Deep.DeepCutAuto
import Derived.BigQuiet
namespace Go.Proofs.Yteaapglkomlnhaa
open Go.ChangeShapes Go.WideShapes Go.ChangeAt Go.WideMaps Go.WideElems Go.RowKit

/-- Two cells that hold a slot. -/
def SlAt (w : World) (g o : Nat) (q : Sl) : Prop := w.cell? ⟨g, o, none⟩ = some (.int .i64 q.k) ∧ w.cell? ⟨g, o + 1, none⟩ = some (.int .i64 q.i)
theorem SlAt.below {w w' : World} {B g o : Nat} {q : Sl} (h : SlAt w g o q) (hb : Below B w w') (hg : g < B) : SlAt w' g o q :=
  ⟨(hb.cell (p := ⟨g, o, none⟩) hg).trans h.1, (hb.cell (p := ⟨g, o + 1, none⟩) hg).trans h.2⟩
theorem slot_of {H : Type} {enc : TypeId × Value → H} {P : Program} {w : World} {base : Nat} {spare : Nat → Bool} {held : Bool} {fuel : Nat} {t ti : TypeId} {fs : Array Field} {cs : List Value} {x : DataW H × List MemPlace}
    (hs : P.underlying t = some (.struct fs)) (hone : Go.Deep.oneCellFields P fs = true) (hn : fs.size = 2) (hty : fs.toList.map (·.type) = [ti, ti])
    (hI : P.underlying ti = some (.int .i64)) (hsz : cs.length = 2) (hf : DataW.trod enc P w base spare held fuel t cs = some x) :
    ∃ q : Sl, cs = [.int .i64 q.k, .int .i64 q.i] := by
  obtain ⟨xs, m, _, _, hlen, hxl, hg⟩ := DataW.trod_struct hs hf
  have int : ∀ j, j < 2 → ∃ u : Int, cs[j]? = some (.int .i64 u) := by
    intro j hj
    have hfj := Array.getElem?_eq_getElem (xs := fs) (i := j) (by omega)
    obtain ⟨ho, hk⟩ := Go.Deep.hone_of hone j _ hfj
    have h1 := hg j _ hfj
    have ht : (fs[j]'(by omega)).type = ti := by
      have e : (fs[j]'(by omega)).type = [ti, ti].getD j 0 := by
        rw [← hty, List.getD_eq_getElem?_getD, List.getElem?_map, Array.getElem?_toList, hfj]
        rfl
      rw [e]
      match j, hj with
      | 0, _ => rfl
      | 1, _ => rfl
    rw [ho, hk, List.getElem?_eq_getElem (show j < xs.length by omega)] at h1
    rw [ht] at h1
    obtain ⟨u, hu, _⟩ := DataW.trod_int hI h1
    refine ⟨u, ?_⟩
    have := congrArg (·[0]?) hu
    simpa [List.getElem?_take, List.getElem?_drop] using this
  obtain ⟨x0, h0⟩ := int 0 (by omega)
  obtain ⟨x1, h1⟩ := int 1 (by omega)
  refine ⟨⟨x0, x1⟩, ?_⟩
  apply List.ext_getElem?
  intro i
  match i with
  | 0 => exact h0
  | 1 => exact h1
  | i + 2 => rw [List.getElem?_eq_none (by omega), List.getElem?_eq_none (by simp)]
/-- v reads as these slots, in a block from A on and below B; z: each of them may be stored. -/
def SlsIn (w : World) (A B : Nat) (z : Bool) (v : Value) (qs : List Sl) : Prop :=
  ∃ a cap, v = .slice a qs.length cap ∧ qs.length ≤ cap ∧ cap ≤ maxLen ∧ (0 < qs.length → ∃ g off, a = some ⟨g, off, none⟩ ∧ A ≤ g ∧ g < B ∧ ∀ j (hj : j < qs.length), SlAt w g (off + j * 2) qs[j] ∧ (z = true → w.frozen? ⟨g, off + j * 2, none⟩ = false ∧ w.frozen? ⟨g, off + j * 2 + 1, none⟩ = false))
theorem SlsIn.keep {w w' : World} {A B : Nat} {z : Bool} {v : Value} {qs : List Sl} (h : SlsIn w A B z v qs) (hk : ∀ k, A ≤ k → k < B → w'.heap[k]? = w.heap[k]?) : SlsIn w' A B z v qs := by
  obtain ⟨a, cap, rfl, h1, h2, h3⟩ := h
  refine ⟨a, cap, rfl, h1, h2, fun h0 => ?_⟩
  obtain ⟨g, off, rfl, h4, h5, h6⟩ := h3 h0
  exact ⟨g, off, rfl, h4, h5, fun j hj => ⟨⟨by rw [World.cell?, hk g h4 h5]; exact (h6 j hj).1.1, by rw [World.cell?, hk g h4 h5]; exact (h6 j hj).1.2⟩, fun hz => ⟨by rw [World.frozen?, hk g h4 h5]; exact ((h6 j hj).2 hz).1, by rw [World.frozen?, hk g h4 h5]; exact ((h6 j hj).2 hz).2⟩⟩⟩
theorem SlsIn.below {w w' : World} {A B C : Nat} {z : Bool} {v : Value} {qs : List Sl} (h : SlsIn w A B z v qs) (hb : Below C w w') (hC : B ≤ C) : SlsIn w' A B z v qs := h.keep fun k _ h2 => hb.block k (by omega)
theorem SlsIn.more {w : World} {A A' B B' : Nat} {z : Bool} {v : Value} {qs : List Sl} (h : SlsIn w A B z v qs) (hA : A' ≤ A) (hB : B ≤ B') : SlsIn w A' B' z v qs := by
  obtain ⟨a, cap, rfl, h1, h2, h3⟩ := h
  refine ⟨a, cap, rfl, h1, h2, fun h0 => ?_⟩
  obtain ⟨g, off, rfl, h4, h5, h6⟩ := h3 h0
  exact ⟨g, off, rfl, by omega, by omega, h6⟩
theorem SlsIn.weak {w : World} {A B : Nat} {z : Bool} {v : Value} {qs : List Sl} (h : SlsIn w A B z v qs) : SlsIn w A B false v qs := by
  obtain ⟨a, cap, rfl, h1, h2, h3⟩ := h
  refine ⟨a, cap, rfl, h1, h2, fun h0 => ?_⟩
  obtain ⟨g, off, rfl, h4, h5, h6⟩ := h3 h0
  exact ⟨g, off, rfl, h4, h5, fun j hj => ⟨(h6 j hj).1, fun h => by cases h⟩⟩
theorem slots_in {H : Type} {enc : TypeId × Value → H} {P : Program} {W : World} {base : Nat} {t e ti : TypeId} {fs : Array Field} {v : Value} {d : DataW H} {qs : List MemPlace}
    (ht : P.underlying t = some (.slice e)) (hs : P.underlying e = some (.struct fs)) (hone : Go.Deep.oneCellFields P fs = true) (hC : P.cellsOf e = 2) (hn : fs.size = 2) (hty : fs.toList.map (·.type) = [ti, ti])
    (hI : P.underlying ti = some (.int .i64))
    (hv : Value.okWide P W .any base t v) (hd : DataW.Trod enc P W 0 (fun _ => true) true t v d qs) : ∃ ps : List Sl, SlsIn W 0 W.heap.size false v ps := by
  obtain ⟨a, len, cap, rfl⟩ := okWide_slice ht hv
  obtain ⟨fuel, hf⟩ := hd
  rcases Go.Deep.open_slice ht hf with ⟨hcs, _⟩ | ⟨a1, len1, cap1, m, n, D, Pl, hcs, _, hl, hm, hmm, _, hx⟩
  · simp [Value.cells] at hcs
    obtain ⟨rfl, rfl, rfl⟩ := hcs
    exact ⟨[], ⟨none, 0, rfl, Nat.le_refl _, Nat.zero_le _, fun h => absurd h (by simp)⟩⟩
  · simp [Value.cells] at hcs
    obtain ⟨rfl, rfl, rfl⟩ := hcs
    have hlm : len ≤ m := by rw [hmm]; split <;> omega
    have each : ∀ i, i < len → ∃ q : Sl, ∀ f, f < 2 → W.cell? ((a1.add (i * 2)).add f) = [Value.int .i64 q.k, .int .i64 q.i][f]? := by
      intro i hi
      obtain ⟨cs', h1, h2⟩ := hx i (by omega)
      rw [hC] at h1
      obtain ⟨_, hlen, hcell⟩ := World.cells?_some h1
      obtain ⟨q, hq⟩ := slot_of hs hone hn hty hI hlen h2
      refine ⟨q, fun f hf => ?_⟩
      have := hcell f hf
      rw [this, ← hq]
    obtain ⟨Sx, hSx⟩ := Go.Deep.choose_lt each
    have hlen : ((List.range len).map Sx).length = len := by simp
    refine ⟨(List.range len).map Sx, ⟨some a1, cap, by rw [hlen], by rw [hlen]; exact hl, hm, fun h0 => ?_⟩⟩
    rw [hlen] at h0
    obtain ⟨b, off, spot⟩ := a1
    have hspot : spot = none := by
      have := hSx 0 (by omega) 0 (by omega)
      simpa [Addr.add] using World.cell?_spot this
    subst hspot
    have hc2 : ∀ j, j < len → ∀ f, f < 2 → W.cell? ⟨b, off + j * 2 + f, none⟩ = [Value.int .i64 (Sx j).k, .int .i64 (Sx j).i][f]? := fun j hj f hf => by
      rw [← hSx j hj f hf, Go.Deep.add_add, Go.WideShapes.add_plain, Nat.add_assoc]
    refine ⟨b, off, rfl, Nat.zero_le _, ?_, fun j hj => ?_⟩
    · have := hc2 0 h0 0 (by omega)
      exact World.block_lt_of_cell? W _ this
    · have hj2 : j < len := by rw [hlen] at hj; exact hj
      rw [List.getElem_map, List.getElem_range]
      exact ⟨⟨hc2 j hj2 0 (by omega), hc2 j hj2 1 (by omega)⟩, fun h => by cases h⟩
theorem szSlots_any (v : Value) (qs : List Sl) (L A B : Nat) (z : Bool) (w : World) (hL : L ≤ 1048576) (h : SlsIn w A B z v qs) : Calls Try.prog 10 #[v, .int .i64 L] w fun e w' => w = w' ∧ ∃ r : Int, e = .returned (.int .i64 r) ∧ (qs.length ≤ L → 0 ≤ r) ∧ (L < qs.length → r = -1) := by
  obtain ⟨a, cap, rfl, h1, h2, _⟩ := h
  unfold maxLen at h2
  by_cases h0 : qs.length ≤ L
  · have hsub : (L : Int) - (qs.length : Int) = ((L - qs.length : Nat) : Int) := by omega
    have hpos : (0 : Int) ≤ ((L - qs.length : Nat) : Int) := by omega
    go_enter Try.func10, Try.ntmps10
    go_wp2
    go_ret
    exact ⟨rfl, _, rfl, fun _ => hpos, fun h => by omega⟩
  · have hneg : (L : Int) - (qs.length : Int) < 0 := by omega
    have hlow : -9223372036854775808 ≤ (L : Int) - (qs.length : Int) := by omega
    go_enter Try.func10, Try.ntmps10
    go_wp2
    go_ret
    exact ⟨rfl, -1, rfl, fun h => by omega, fun _ => rfl⟩
theorem toSlot_any (q : Sl) (w : World) : Calls Try.prog 16 #[.agg #[.int .i64 q.k, .int .i64 q.i]] w fun e w' => e = .returned (.agg #[.int .i64 q.k, .int .i64 q.i]) ∧ Below w.heap.size w w' := by
  go_enter Try.func16, Try.ntmps16
  go_wp2_with fail
  refine bodyPost_ret (v := .agg #[.int .i64 q.k, .int .i64 q.i]) (by simp [results, Try.results16, go_sem]) rfl ⟨rfl, (((Below.refl _ _).alloc (Nat.le_refl _) _).alloc (by simp) _).alloc (by simp; omega) _⟩
end Go.Proofs.Yteaapglkomlnhaa
