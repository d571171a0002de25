/- How a node reads: of an argument, of memory that was made. No condition. -/
import Derived.Test.YtcaabnnkjnleeaaDoorTrMath
import Derived.Deep.Slices
import Derived.ChangeSlices
import Derived.Deep.Fields
namespace Go.Proofs.YtcaabnnkjnleeaaDoor
open Go.ChangeShapes Go.WideShapes Go.ChangeAt Go.WideMaps Go.WideElems Go.RowKit

/-- v reads as these numbers, in a block from A on and below B; z: each of them may be stored. -/
def IntsIn (w : World) (A B : Nat) (z : Bool) (v : Value) (zs : List Int) : Prop :=
  ∃ a cap, v = .slice a zs.length cap ∧ zs.length ≤ cap ∧ cap ≤ maxLen ∧ (0 < zs.length → ∃ g off, a = some ⟨g, off, none⟩ ∧ A ≤ g ∧ g < B ∧ ∀ j (hj : j < zs.length), w.cell? ⟨g, off + j, none⟩ = some (.int .i64 zs[j]) ∧ (z = true → w.frozen? ⟨g, off + j, none⟩ = false))
theorem IntsIn.below {w w' : World} {A B C : Nat} {z : Bool} {v : Value} {zs : List Int} (h : IntsIn w A B z v zs) (hb : Below C w w') (hC : B ≤ C) : IntsIn w' A B z v zs := by
  obtain ⟨a, cap, rfl, h1, h2, h3⟩ := h
  refine ⟨a, cap, rfl, h1, h2, fun h0 => ?_⟩
  obtain ⟨g, off, rfl, h4, h5, h6⟩ := h3 h0
  exact ⟨g, off, rfl, h4, h5, fun j hj => ⟨(hb.cell (p := ⟨g, off + j, none⟩) (by show g < C; omega)).trans (h6 j hj).1, fun hz => by rw [World.frozen?, hb.block g (by omega)]; exact (h6 j hj).2 hz⟩⟩
theorem IntsIn.more {w : World} {A A' B B' : Nat} {z : Bool} {v : Value} {zs : List Int} (h : IntsIn w A B z v zs) (hA : A' ≤ A) (hB : B ≤ B') : IntsIn w A' B' z v zs := by
  obtain ⟨a, cap, rfl, h1, h2, h3⟩ := h
  refine ⟨a, cap, rfl, h1, h2, fun h0 => ?_⟩
  obtain ⟨g, off, rfl, h4, h5, h6⟩ := h3 h0
  exact ⟨g, off, rfl, by omega, by omega, h6⟩
/-- A node as it reads, n deep: its label stands beside. -/
def NodeIn (w : World) (A B : Nat) (z : Bool) : Nat → Tr → Value → Value → Prop
  | 0, _, _, _ => False
  | n + 1, t, vi, vk => IntsIn w A B z vi t.ids ∧ ∃ a cap, vk = .slice a t.ks.length cap ∧ t.ks.length ≤ cap ∧ cap ≤ maxLen ∧ (0 < t.ks.length → ∃ g off, a = some ⟨g, off, none⟩ ∧ A ≤ g ∧ g < B ∧ ∀ j (hj : j < t.ks.length), t.ks[j].l.size ≤ maxLen ∧ (z = true → ∀ f, f < 3 → w.frozen? ⟨g, off + j * 3 + f, none⟩ = false) ∧ w.cell? ⟨g, off + j * 3, none⟩ = some (.string t.ks[j].l) ∧ ∃ ui uk, w.cell? ⟨g, off + j * 3 + 1, none⟩ = some ui ∧ w.cell? ⟨g, off + j * 3 + 2, none⟩ = some uk ∧ NodeIn w A B z n t.ks[j] ui uk)
/-- Kids as they read, each n deep. -/
def KidsIn (w : World) (A B : Nat) (z : Bool) (n : Nat) (v : Value) (ks : List Tr) : Prop :=
  ∃ a cap, v = .slice a ks.length cap ∧ ks.length ≤ cap ∧ cap ≤ maxLen ∧ (0 < ks.length → ∃ g off, a = some ⟨g, off, none⟩ ∧ A ≤ g ∧ g < B ∧ ∀ j (hj : j < ks.length), ks[j].l.size ≤ maxLen ∧ (z = true → ∀ f, f < 3 → w.frozen? ⟨g, off + j * 3 + f, none⟩ = false) ∧ w.cell? ⟨g, off + j * 3, none⟩ = some (.string ks[j].l) ∧ ∃ ui uk, w.cell? ⟨g, off + j * 3 + 1, none⟩ = some ui ∧ w.cell? ⟨g, off + j * 3 + 2, none⟩ = some uk ∧ NodeIn w A B z n ks[j] ui uk)
theorem NodeIn.parts {w : World} {A B n : Nat} {z : Bool} {t : Tr} {vi vk : Value} (h : NodeIn w A B z (n + 1) t vi vk) : IntsIn w A B z vi t.ids ∧ KidsIn w A B z n vk t.ks := h
theorem NodeIn.of {w : World} {A B n : Nat} {z : Bool} {t : Tr} {vi vk : Value} (hi : IntsIn w A B z vi t.ids) (hk : KidsIn w A B z n vk t.ks) : NodeIn w A B z (n + 1) t vi vk := ⟨hi, hk⟩
theorem NodeIn.below {w w' : World} {A B C : Nat} {z : Bool} (hb : Below C w w') (hC : B ≤ C) : ∀ {n : Nat} {t : Tr} {vi vk : Value}, NodeIn w A B z n t vi vk → NodeIn w' A B z n t vi vk
  | 0, _, _, _, h => h.elim
  | n + 1, t, vi, vk, ⟨hi, a, cap, hv, h1, h2, h3⟩ => by
    refine ⟨hi.below hb hC, a, cap, hv, h1, h2, fun h0 => ?_⟩
    obtain ⟨g, off, rfl, h4, h5, h6⟩ := h3 h0
    refine ⟨g, off, rfl, h4, h5, fun j hj => ?_⟩
    obtain ⟨k1, k2, k3, ui, uk, k4, k5, k6⟩ := h6 j hj
    exact ⟨k1, fun hz f hf => by rw [World.frozen?, hb.block g (by omega)]; exact k2 hz f hf, (hb.cell (p := ⟨g, off + j * 3, none⟩) (by show g < C; omega)).trans k3, ui, uk, (hb.cell (p := ⟨g, off + j * 3 + 1, none⟩) (by show g < C; omega)).trans k4, (hb.cell (p := ⟨g, off + j * 3 + 2, none⟩) (by show g < C; omega)).trans k5, NodeIn.below hb hC k6⟩
theorem NodeIn.more {w : World} {A A' B B' : Nat} {z : Bool} (hA : A' ≤ A) (hB : B ≤ B') : ∀ {n : Nat} {t : Tr} {vi vk : Value}, NodeIn w A B z n t vi vk → NodeIn w A' B' z n t vi vk
  | 0, _, _, _, h => h.elim
  | n + 1, t, vi, vk, ⟨hi, a, cap, hv, h1, h2, h3⟩ => by
    refine ⟨hi.more hA hB, a, cap, hv, h1, h2, fun h0 => ?_⟩
    obtain ⟨g, off, rfl, h4, h5, h6⟩ := h3 h0
    refine ⟨g, off, rfl, by omega, by omega, fun j hj => ?_⟩
    obtain ⟨k1, k2, k3, ui, uk, k4, k5, k6⟩ := h6 j hj
    exact ⟨k1, k2, k3, ui, uk, k4, k5, NodeIn.more hA hB k6⟩
theorem ints_in {H : Type} {enc : TypeId × Value → H} {P : Program} {W : World} {t e : TypeId} {fuel : Nat} {v : Value} {x : DataW H × List MemPlace} (ht : P.underlying t = some (.slice e)) (he : P.underlying e = some (.int .i64)) (hc : P.cellsOf e = 1)
    (hf : DataW.trod enc P W 0 (fun _ => true) true fuel t [v] = some x) : ∃ zs : List Int, IntsIn W 0 W.heap.size false v zs := by
  rcases Go.ChangeShapes.open_ints ht he hc hf with ⟨hcs, _⟩ | ⟨a1, len, cap, zs, hcs, _, hl, hm, hlen, _, hcell, _⟩
  · simp at hcs
    subst hcs
    exact ⟨[], none, 0, rfl, Nat.le_refl _, Nat.zero_le _, fun h => absurd h (by simp)⟩
  · simp at hcs
    subst hcs
    have hzl : zs.length = cap := by simpa using hlen
    have htl : (zs.take len).length = len := by rw [List.length_take]; omega
    refine ⟨zs.take len, some a1, cap, by rw [htl], by rw [htl]; exact hl, hm, fun h0 => ?_⟩
    rw [htl] at h0
    obtain ⟨b, off, spot⟩ := a1
    have hspot : spot = none := by simpa [Addr.add] using World.cell?_spot (hcell 0 (by omega))
    subst hspot
    have hc2 : ∀ j, j < len → W.cell? ⟨b, off + j, none⟩ = some (.int .i64 (zs.getD j 0)) := fun j hj => by
      rw [← Go.WideShapes.add_plain]
      exact hcell j (by omega)
    refine ⟨b, off, rfl, Nat.zero_le _, World.block_lt_of_cell? W _ (hc2 0 h0), fun j hj => ⟨?_, fun h => by cases h⟩⟩
    have hj2 : j < len := by rw [htl] at hj; exact hj
    rw [hc2 j hj2, List.getElem_take]
    simp [List.getD, List.getElem?_eq_getElem (show j < zs.length by omega)]
theorem KidsIn.below {w w' : World} {A B C n : Nat} {z : Bool} {v : Value} {ks : List Tr} (h : KidsIn w A B z n v ks) (hb : Below C w w') (hC : B ≤ C) : KidsIn w' A B z n v ks := by
  obtain ⟨a, cap, hv, h1, h2, h3⟩ := h
  refine ⟨a, cap, hv, h1, h2, fun h0 => ?_⟩
  obtain ⟨g, off, rfl, h4, h5, h6⟩ := h3 h0
  refine ⟨g, off, rfl, h4, h5, fun j hj => ?_⟩
  obtain ⟨k1, k2, k3, ui, uk, k4, k5, k6⟩ := h6 j hj
  exact ⟨k1, fun hz f hf => by rw [World.frozen?, hb.block g (by omega)]; exact k2 hz f hf, (hb.cell (p := ⟨g, off + j * 3, none⟩) (by show g < C; omega)).trans k3, ui, uk, (hb.cell (p := ⟨g, off + j * 3 + 1, none⟩) (by show g < C; omega)).trans k4, (hb.cell (p := ⟨g, off + j * 3 + 2, none⟩) (by show g < C; omega)).trans k5, k6.below hb hC⟩
theorem KidsIn.more {w : World} {A A' B B' n : Nat} {z : Bool} {v : Value} {ks : List Tr} (h : KidsIn w A B z n v ks) (hA : A' ≤ A) (hB : B ≤ B') : KidsIn w A' B' z n v ks := by
  obtain ⟨a, cap, hv, h1, h2, h3⟩ := h
  refine ⟨a, cap, hv, h1, h2, fun h0 => ?_⟩
  obtain ⟨g, off, rfl, h4, h5, h6⟩ := h3 h0
  refine ⟨g, off, rfl, by omega, by omega, fun j hj => ?_⟩
  obtain ⟨k1, k2, k3, ui, uk, k4, k5, k6⟩ := h6 j hj
  exact ⟨k1, k2, k3, ui, uk, k4, k5, k6.more hA hB⟩
/-- A node that came in. -/
theorem node_in {H : Type} {enc : TypeId × Value → H} {P : Program} {W : World} {tn ts tk ti t0 : TypeId} {fs : Array Field}
    (hs : P.underlying tn = some (.struct fs)) (hone : Go.Deep.oneCellFields P fs = true) (hn : fs.size = 3) (hC : P.cellsOf tn = 3) (hty : fs.toList.map (·.type) = [ts, ti, tk])
    (hS : P.underlying ts = some .string) (hI : P.underlying ti = some (.slice t0)) (hI0 : P.underlying t0 = some (.int .i64)) (hc0 : P.cellsOf t0 = 1) (hK : P.underlying tk = some (.slice tn)) :
    ∀ (fuel : Nat) (cs : List Value) (x : DataW H × List MemPlace), cs.length = 3 → DataW.trod enc P W 0 (fun _ => true) true fuel tn cs = some x →
      ∃ (n : Nat) (t : Tr) (vi vk : Value), cs = [.string t.l, vi, vk] ∧ t.l.size ≤ maxLen ∧ NodeIn W 0 W.heap.size false n t vi vk := by
  intro fuel
  induction fuel using Nat.strongRecOn with
  | ind fuel ih =>
    intro cs x hsz hf
    obtain ⟨xs, m, rfl, _, hlen, hxl, hg⟩ := DataW.trod_struct hs hf
    have at_ : ∀ j, j < 3 → ∃ (z : DataW H × List MemPlace) (c : Value), cs[j]? = some c ∧ DataW.trod enc P W 0 (fun _ => true) true m ([ts, ti, tk].getD j 0) [c] = some z := by
      intro j hj
      have hfj := Array.getElem?_eq_getElem (xs := fs) (i := j) (by omega)
      obtain ⟨ho, hk⟩ := Go.Deep.hone_of hone j _ hfj
      have h1 := hg j _ hfj
      have ht : (fs[j]'(by omega)).type = [ts, ti, tk].getD j 0 := by
        rw [← hty, List.getD_eq_getElem?_getD, List.getElem?_map, Array.getElem?_toList, hfj]
        rfl
      rw [ho, hk, List.getElem?_eq_getElem (show j < xs.length by omega)] at h1
      rw [ht] at h1
      refine ⟨xs[j]'(by omega), cs[j]'(by omega), List.getElem?_eq_getElem (by omega), ?_⟩
      rw [← h1]
      congr 1
      rw [List.drop_eq_getElem_cons (by omega)]
      rfl
    obtain ⟨_, c0, e0, f0⟩ := at_ 0 (by omega)
    obtain ⟨_, c1, e1, f1⟩ := at_ 1 (by omega)
    obtain ⟨y, c2, e2, f2⟩ := at_ 2 (by omega)
    obtain ⟨l, hl, _, hlm⟩ := DataW.trod_string hS f0
    simp at hl
    subst hl
    obtain ⟨zs, hz⟩ := ints_in hI hI0 hc0 f1
    have hcs : cs = [.string l, c1, c2] := by
      apply List.ext_getElem?
      intro i
      match i with
      | 0 => exact e0
      | 1 => exact e1
      | 2 => exact e2
      | i + 3 => rw [List.getElem?_eq_none (by omega), List.getElem?_eq_none (by simp)]
    rcases DataW.trod_slice hK f2 with ⟨h0, _⟩ | ⟨a1, len, cap, elems, rest, n, hmn, h0, _, _, hle, hm, hel, hx, _, _⟩
    · simp at h0
      subst h0
      exact ⟨1, .mk l zs [], c1, _, hcs, hlm, hz, none, 0, rfl, Nat.le_refl _, Nat.zero_le _, fun h => absurd h (by simp [Tr.ks])⟩
    · simp at h0
      subst h0
      have each : ∀ i, i < len → ∃ (q : Nat × Tr × Value × Value), (∀ f, f < 3 → W.cell? ((a1.add (i * 3)).add f) = [.string q.2.1.l, q.2.2.1, q.2.2.2][f]?) ∧ q.2.1.l.size ≤ maxLen ∧ NodeIn W 0 W.heap.size false q.1 q.2.1 q.2.2.1 q.2.2.2 := by
        intro i hi
        have h1 := hx i hi
        rw [List.getElem?_eq_getElem (show i < elems.length by omega), hC] at h1
        obtain ⟨cs', k1, k2⟩ := Option.bind_eq_some_iff.1 h1
        obtain ⟨_, klen, kcell⟩ := World.cells?_some k1
        obtain ⟨n', t, vi, vk, hq, hlm', hN⟩ := ih n (by omega) cs' _ klen k2
        refine ⟨(n', t, vi, vk), fun f hf => ?_, hlm', hN⟩
        rw [kcell f hf, hq]
      obtain ⟨Q, hQ⟩ := Go.Deep.choose_lt each
      obtain ⟨top, htop⟩ : ∃ top, ∀ i, i < len → (Q i).1 ≤ top := by
        refine ⟨((List.range len).map fun i => (Q i).1).sum, fun i hi => ?_⟩
        have : ∀ l : List Nat, i ∈ l → (Q i).1 ≤ (l.map fun i => (Q i).1).sum := by
          intro l
          induction l with
          | nil => intro h; cases h
          | cons b l ih =>
            intro h
            simp only [List.map_cons, List.sum_cons]
            rcases List.mem_cons.1 h with rfl | h
            · omega
            · have := ih h
              omega
        exact this _ (List.mem_range.2 hi)
      have deeper : ∀ (d n : Nat) (t : Tr) (vi vk : Value), NodeIn W 0 W.heap.size false n t vi vk → NodeIn W 0 W.heap.size false (n + d) t vi vk := by
        intro d n
        induction n with
        | zero => intro t vi vk h; exact h.elim
        | succ n ih =>
          rintro t vi vk ⟨hi, a, cap, hv, h1, h2, h3⟩
          rw [show n + 1 + d = (n + d) + 1 by omega]
          refine ⟨hi, a, cap, hv, h1, h2, fun h0 => ?_⟩
          obtain ⟨g, off, rfl, h4, h5, h6⟩ := h3 h0
          refine ⟨g, off, rfl, h4, h5, fun j hj => ?_⟩
          obtain ⟨k1, k2, k3, ui, uk, k4, k5, k6⟩ := h6 j hj
          exact ⟨k1, k2, k3, ui, uk, k4, k5, ih _ _ _ k6⟩
      have hlen2 : (Tr.mk l zs ((List.range len).map fun i => (Q i).2.1)).ks.length = len := by
        show ((List.range len).map fun i => (Q i).2.1).length = len
        simp
      refine ⟨top + 1, .mk l zs ((List.range len).map fun i => (Q i).2.1), c1, _, hcs, hlm, hz, some a1, cap, by rw [hlen2], by rw [hlen2]; exact hle, hm, fun h0 => ?_⟩
      have h0' : 0 < len := by omega
      obtain ⟨b, off, spot⟩ := a1
      have hspot : spot = none := by
        have := (hQ 0 h0').1 0 (by omega)
        simpa [Addr.add] using World.cell?_spot this
      subst hspot
      have hc2 : ∀ j, j < len → ∀ f, f < 3 → W.cell? ⟨b, off + j * 3 + f, none⟩ = [.string (Q j).2.1.l, (Q j).2.2.1, (Q j).2.2.2][f]? := fun j hj f hf => by
        rw [← (hQ j hj).1 f hf, Go.Deep.add_add, Go.WideShapes.add_plain, Nat.add_assoc]
      refine ⟨b, off, rfl, Nat.zero_le _, World.block_lt_of_cell? W _ (hc2 0 h0' 0 (by omega)), fun j hj => ?_⟩
      have hj2 : j < len := by omega
      have hget : (Tr.mk l zs ((List.range len).map fun i => (Q i).2.1)).ks[j] = (Q j).2.1 := by
        have h : (Tr.mk l zs ((List.range len).map fun i => (Q i).2.1)).ks[j]? = some (Q j).2.1 := by
          show ((List.range len).map fun i => (Q i).2.1)[j]? = _
          simp [hj2]
        exact (List.getElem?_eq_some_iff.1 h).2
      rw [hget]
      have hd := deeper (top - (Q j).1) _ _ _ _ (hQ j hj2).2.2
      rw [show (Q j).1 + (top - (Q j).1) = top by have := htop j hj2; omega] at hd
      exact ⟨(hQ j hj2).2.1, (fun h => by cases h), hc2 j hj2 0 (by omega), _, _, hc2 j hj2 1 (by omega), hc2 j hj2 2 (by omega), hd⟩
end Go.Proofs.YtcaabnnkjnleeaaDoor
