/- The program's look at a heap is the model's. No condition. -/
import Derived.Test.YteaapglkomlnhaaHpImpl
namespace Go.Proofs.Yteaapglkomlnhaa

theorem rise_pair : ∀ {zs : List Int}, zs.Pairwise (fun a b => a ≤ b) → (riseB zs = true ↔ zs.Nodup)
  | [], _ => by simp [riseB]
  | [a], _ => by simp [riseB]
  | a :: b :: r, h => by
    have h1 := List.pairwise_cons.1 h
    rw [riseB, Bool.and_eq_true, decide_eq_true_eq, rise_pair h1.2]
    constructor
    · rintro ⟨h2, h3⟩
      refine List.nodup_cons.2 ⟨fun hm => ?_, h3⟩
      rcases List.mem_cons.1 hm with e | hm
      · omega
      · have := (List.pairwise_cons.1 h1.2).1 a hm
        omega
    · intro h2
      have h3 := List.nodup_cons.1 h2
      refine ⟨?_, h3.2⟩
      have := h1.1 b (by simp)
      have : a ≠ b := fun e => h3.1 (by simp [e])
      omega
theorem rise_sort (zs : List Int) : riseB (sortI zs) = true ↔ zs.Nodup := by
  have hs : (sortI zs).Pairwise (fun a b => a ≤ b) := by
    have := List.pairwise_mergeSort (le := fun x y : Int => decide (x ≤ y)) (fun a b c h1 h2 => by simp at h1 h2 ⊢; omega) (fun a b => by simp; omega) zs
    exact this.imp fun h => by simpa using h
  rw [rise_pair hs]
  exact (List.mergeSort_perm zs _).nodup_iff
theorem at_first {qs : List Sl} (h : ∀ j, j < qs.length → atS qs qs[j]!.i = j) : (qs.map (·.i)).Nodup := by
  rw [List.nodup_iff_pairwise_ne, List.pairwise_iff_getElem]
  intro i j hi hj hlt
  rw [List.length_map] at hi hj
  rw [List.getElem_map, List.getElem_map, ← getElem!_pos qs i hi, ← getElem!_pos qs j hj]
  intro e
  have h1 := h i hi
  have h2 := h j hj
  rw [e] at h1
  omega
theorem first_at {qs : List Sl} (h : (qs.map (·.i)).Nodup) {j : Nat} (hj : j < qs.length) : atS qs qs[j]!.i = j := by
  refine atS_some hj rfl fun m hm e => ?_
  rw [List.nodup_iff_pairwise_ne, List.pairwise_iff_getElem] at h
  have := h m j (by simp; omega) (by simpa using hj) hm
  rw [List.getElem_map, List.getElem_map, ← getElem!_pos qs m (by omega), ← getElem!_pos qs j hj] at this
  exact this e
theorem heap_same {qs : List Sl} (hl : qs.length ≤ 16) : hpB qs = (qs.all slotB && (numsB (qs.map (·.i)) && ordB qs)) := by
  rw [Bool.eq_iff_iff, hpB_iff, Bool.and_eq_true, Bool.and_eq_true, numsB_in, Bool.and_eq_true, rise_sort, List.all_eq_true, List.all_eq_true]
  unfold ordB
  rw [decide_eq_true_eq]
  constructor
  · rintro ⟨_, h⟩
    refine ⟨fun x hx => ?_, ⟨at_first fun j hj => (h j hj).2.2.1, fun i hi => ?_⟩, fun j hj h0 => (h j hj).2.2.2 h0⟩
    · obtain ⟨j, hj, rfl⟩ := List.mem_iff_getElem.1 hx
      have := h j hj
      rw [← getElem!_pos qs j hj]
      unfold slotB
      rw [this.1, this.2.1]
      rfl
    · obtain ⟨x, hx, rfl⟩ := List.mem_map.1 hi
      obtain ⟨j, hj, rfl⟩ := List.mem_iff_getElem.1 hx
      have := (h j hj).1
      rw [getElem!_pos qs j hj] at this
      exact this
  · rintro ⟨h1, ⟨h2, _⟩, h4⟩
    refine ⟨hl, fun j hj => ?_⟩
    have hs := h1 qs[j] (List.getElem_mem hj)
    rw [← getElem!_pos qs j hj] at hs
    unfold slotB at hs
    rw [Bool.and_eq_true] at hs
    exact ⟨hs.2, hs.1, first_at h2 hj, fun h0 => h4 j hj h0⟩
end Go.Proofs.Yteaapglkomlnhaa
