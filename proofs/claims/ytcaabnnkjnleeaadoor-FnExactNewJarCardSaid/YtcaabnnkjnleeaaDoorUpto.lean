/- Of a list of texts: whether all up to a place are so; what a search answers. No condition. -/
import Derived.Test.YtcaabnnkjnleeaaDoorSufMath
import Derived.Test.YtcaabnnkjnleeaaDoorBase
namespace Go.Proofs.YtcaabnnkjnleeaaDoor
open Go.ChangeShapes Go.WideShapes Go.ChangeAt Go.WideMaps Go.WideElems Go.RowKit

def AllUpto (p : List UInt8 → Bool) (ps : List (List UInt8)) (k : Nat) : Prop := ∀ j (hj : j < ps.length), j < k → p ps[j] = true
theorem all_succ {p : List UInt8 → Bool} {ps : List (List UInt8)} {k : Nat} (h : AllUpto p ps k) (hk : k < ps.length) (hg : p ps[k] = true) : AllUpto p ps (k + 1) := fun j hj h2 => by
  by_cases e : j = k
  · subst e
    exact hg
  · exact h j hj (by omega)
theorem all_of {p : List UInt8 → Bool} {ps : List (List UInt8)} {k : Nat} (h : AllUpto p ps k) (hk : ps.length ≤ k) : ps.all p = true := by
  rw [List.all_eq_true]
  intro x hx
  obtain ⟨j, hj, rfl⟩ := List.mem_iff_getElem.1 hx
  exact h j hj (by omega)
theorem all_not {p : List UInt8 → Bool} {ps : List (List UInt8)} {k : Nat} (hk : k < ps.length) (hg : p ps[k] = false) : ps.all p = false := by
  rw [List.all_eq_false]
  exact ⟨_, List.getElem_mem hk, by simp [hg]⟩
def FoundPost (w : World) (b : Bool) (e : Ending) (w' : World) : Prop := ∃ r : Int, e = .returned (.int .i64 r) ∧ decide (0 ≤ r) = b ∧ Below w.heap.size w w' 
end Go.Proofs.YtcaabnnkjnleeaaDoor
