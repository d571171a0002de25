/- The model's look at a node. No condition of its own. -/
import Derived.Test.YtcaabnnkjnleeaaDoorTrSpec
import Derived.Test.YtcaabnnkjnleeaaDoorTrIds
import Derived.Test.YtcaabnnkjnleeaaDoorTrEq
namespace Go.Proofs.YtcaabnnkjnleeaaDoor
open Go.ChangeShapes Go.WideShapes Go.ChangeAt Go.WideMaps Go.WideElems Go.RowKit

def kidAt (n : Nat) (d : Int) (ks : List Tr) (j : Nat) : Prop := ∀ h : j < ks.length, lbB ks[j].l = true ∧ (0 < j → ks[j - 1].l.toList < ks[j].l.toList) ∧ fullB ks[j] = true ∧ okT n ks[j] (d - 1) = true
theorem incS_iff : ∀ zs : List ByteArray, incS zs = true ↔ ∀ j (h : j + 1 < zs.length), zs[j].toList < zs[j + 1].toList
  | [] => by simp [incS]
  | [a] => by simp [incS]
  | a :: b :: r => by
    rw [incS, Bool.and_eq_true, decide_eq_true_eq, incS_iff (b :: r)]
    constructor
    · rintro ⟨h1, h2⟩ j h
      cases j with
      | zero => exact h1
      | succ j => exact h2 j (by simpa using h)
    · intro h
      exact ⟨h 0 (by simp), fun j hj => h (j + 1) (by simpa using hj)⟩
theorem okT_iff (n : Nat) (t : Tr) (d : Int) : okT (n + 1) t d = true ↔ 0 ≤ d ∧ idsB t.ids = true ∧ ∀ j, kidAt n d t.ks j := by
  simp only [okT, idsB, kidAt, Bool.and_eq_true, decide_eq_true_eq, List.all_eq_true, incS_iff]
  constructor
  · rintro ⟨h1, h2, h3, h4, h5, h6⟩
    refine ⟨h1, ⟨h2, h3⟩, fun j hj => ⟨(h4 _ (List.getElem_mem hj)).1, fun h0 => ?_, (h4 _ (List.getElem_mem hj)).2, h6 _ (List.getElem_mem hj)⟩⟩
    have := h5 (j - 1) (by simp; omega)
    simpa only [List.getElem_map, Nat.sub_add_cancel h0] using this
  · rintro ⟨h1, ⟨h2, h3⟩, h4⟩
    refine ⟨h1, h2, h3, fun x hx => ?_, fun j hj => ?_, fun x hx => ?_⟩
    · obtain ⟨j, hj, rfl⟩ := List.mem_iff_getElem.1 hx
      exact ⟨(h4 j hj).1, (h4 j hj).2.2.1⟩
    · have := (h4 (j + 1) (by simpa using hj)).2.1 (Nat.succ_pos _)
      simpa using this
    · obtain ⟨j, hj, rfl⟩ := List.mem_iff_getElem.1 hx
      exact (h4 j hj).2.2.2
theorem okT_no {n : Nat} {t : Tr} {d : Int} {j : Nat} (h : ¬ kidAt n d t.ks j) : okT (n + 1) t d = false := by
  cases e : okT (n + 1) t d with
  | false => rfl
  | true => exact (h (((okT_iff n t d).1 e).2.2 j)).elim
theorem okT_yes {n : Nat} {t : Tr} {d : Int} {k : Nat} (h0 : 0 ≤ d) (h1 : idsB t.ids = true) (h : ∀ j, j < k → kidAt n d t.ks j) (hk : t.ks.length ≤ k) : okT (n + 1) t d = true := (okT_iff n t d).2 ⟨h0, h1, fun j hj => h j (by omega) hj⟩
theorem okT_neg {n : Nat} {t : Tr} {d : Int} (h : ¬ 0 ≤ d) : okT (n + 1) t d = false := by
  cases e : okT (n + 1) t d with
  | false => rfl
  | true => exact (h ((okT_iff n t d).1 e).1).elim
theorem okT_ids {n : Nat} {t : Tr} {d : Int} (h : idsB t.ids = false) : okT (n + 1) t d = false := by
  cases e : okT (n + 1) t d with
  | false => rfl
  | true => exact absurd ((okT_iff n t d).1 e).2.1 (by rw [h]; decide)
end Go.Proofs.YtcaabnnkjnleeaaDoor
