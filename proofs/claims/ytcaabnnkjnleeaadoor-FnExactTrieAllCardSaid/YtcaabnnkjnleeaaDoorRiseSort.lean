/- A row sorted rises where it holds nothing twice. No condition. -/
import Derived.Test.YtcaabnnkjnleeaaDoorHpNums
namespace Go.Proofs.YtcaabnnkjnleeaaDoor

theorem rise_pair : ∀ {zs : List Int}, zs.Pairwise (fun a b => a ≤ b) → (riseB zs = true ↔ zs.Nodup)
  | [], _ => by simp [riseB]
  | [a], _ => by simp [riseB]
  | a :: b :: r, h => by
    have h1 := List.pairwise_cons.1 h
    rw [riseB, Bool.and_eq_true, decide_eq_true_eq, rise_pair h1.2]
    constructor
    · rintro ⟨h2, h3⟩
      refine List.nodup_cons.2 ⟨fun hm => ?_, h3⟩
      rcases List.mem_cons.1 hm with e | hm
      · omega
      · have := (List.pairwise_cons.1 h1.2).1 a hm
        omega
    · intro h2
      have h3 := List.nodup_cons.1 h2
      refine ⟨?_, h3.2⟩
      have := h1.1 b (by simp)
      have : a ≠ b := fun e => h3.1 (by simp [e])
      omega
theorem rise_sort (zs : List Int) : riseB (sortI zs) = true ↔ zs.Nodup := by
  have hs : (sortI zs).Pairwise (fun a b => a ≤ b) := by
    have := List.pairwise_mergeSort (le := fun x y : Int => decide (x ≤ y)) (fun a b c h1 h2 => by simp at h1 h2 ⊢; omega) (fun a b => by simp; omega) zs
    exact this.imp fun h => by simpa using h
  rw [rise_pair hs]
  exact (List.mergeSort_perm zs _).nodup_iff
end Go.Proofs.YtcaabnnkjnleeaaDoor
