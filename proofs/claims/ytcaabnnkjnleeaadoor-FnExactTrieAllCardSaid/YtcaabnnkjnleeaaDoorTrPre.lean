/- Tries, plain: the nodes of a trie, each before those below it, and what the program asks of each. No condition. -/
import Derived.Test.YtcaabnnkjnleeaaDoorTrMath
import Derived.Test.YtcaabnnkjnleeaaDoorTrIn
namespace Go.Proofs.YtcaabnnkjnleeaaDoor
open Go.ChangeShapes Go.WideShapes Go.ChangeAt Go.WideMaps Go.WideElems Go.RowKit

/-- A node d below the root and all that lie below it, each with its depth. -/
def preT : Nat → Tr → Int → List (Tr × Int)
  | 0, _, _ => []
  | n + 1, t, d => (t, d) :: t.ks.flatMap fun k => preT n k (d + 1)
/-- The reading goes deep enough. -/
def dpT : Nat → Tr → Prop
  | 0, _ => False
  | n + 1, t => ∀ k ∈ t.ks, dpT n k
/-- What the program asks of a node's kids. -/
def kidsB (t : Tr) : Bool := decide (t.ks.length ≤ 16) && (t.ks.all (fun k => lbB k.l) && incS (t.ks.map Tr.l))
/-- What the program asks of a node d below the root. -/
def lookB (t : Tr) (d : Int) : Bool := decide (d ≤ 6) && ((!decide (0 < d) || fullB t) && (kidsB t && incB t.ids))
theorem all_flat {α β : Type} (f : α → List β) (p : β → Bool) (l : List α) : (l.flatMap f).all p = l.all fun x => (f x).all p := by
  induction l with
  | nil => rfl
  | cons a l ih => simp only [List.flatMap_cons, List.all_append, List.all_cons, ih]
theorem pre_look : ∀ (n : Nat) (t : Tr) (d : Int), dpT n t → okI n t d = (preT n t d).all fun x => lookB x.1 x.2
  | 0, _, _, h => h.elim
  | n + 1, t, d, h => by
    have hk : (t.ks.all fun k => okI n k (d + 1)) = t.ks.all fun k => (preT n k (d + 1)).all fun x => lookB x.1 x.2 := by
      rw [Bool.eq_iff_iff, List.all_eq_true, List.all_eq_true]
      exact ⟨fun g k hm => by rw [← pre_look n k (d + 1) (h k hm)]; exact g k hm, fun g k hm => by rw [pre_look n k (d + 1) (h k hm)]; exact g k hm⟩
    simp only [okI, preT, List.all_cons, all_flat, lookB, kidsB, hk, Bool.and_assoc]
theorem pre_ids : ∀ (n : Nat) (t : Tr) (d : Int), (preT n t d).flatMap (fun x => x.1.ids) = allT n t
  | 0, _, _ => rfl
  | n + 1, t, d => by
    have hk : ∀ ks : List Tr, (ks.flatMap fun k => preT n k (d + 1)).flatMap (fun x => x.1.ids) = ks.flatMap (allT n) := by
      intro ks
      induction ks with
      | nil => rfl
      | cons k ks ih => simp only [List.flatMap_cons, List.flatMap_append, ih, pre_ids n k (d + 1)]
    simp only [preT, allT, List.flatMap_cons, hk]
theorem pre_len : ∀ (n : Nat) (t : Tr) (d : Int), (preT n t d).length = cntT n t
  | 0, _, _ => rfl
  | n + 1, t, d => by
    have hk : ∀ ks : List Tr, (ks.flatMap fun k => preT n k (d + 1)).length = (ks.map (cntT n)).sum := by
      intro ks
      induction ks with
      | nil => rfl
      | cons k ks ih => simp only [List.flatMap_cons, List.length_append, List.map_cons, List.sum_cons, ih, pre_len n k (d + 1)]
    simp only [preT, cntT, List.length_cons, hk]
    omega
theorem node_deep {w : World} {A B : Nat} {z : Bool} : ∀ {n : Nat} {t : Tr} {vi vk : Value}, NodeIn w A B z n t vi vk → dpT n t
  | 0, _, _, _, h => h.elim
  | n + 1, t, vi, vk, ⟨_, a, cap, _, _, _, h3⟩ => fun k hk => by
    obtain ⟨j, hj, rfl⟩ := List.mem_iff_getElem.1 hk
    obtain ⟨g, off, _, _, _, h6⟩ := h3 (by omega)
    obtain ⟨_, _, _, ui, uk, _, _, h⟩ := h6 j hj
    exact node_deep h
/-- All that have come so far are well, and their numbers are not too many. -/
def walkB (l : List (Tr × Int)) : Bool := (l.all fun x => lookB x.1 x.2) && decide ((l.flatMap fun x => x.1.ids).length ≤ 16)
theorem walk_pre {l l' : List (Tr × Int)} (h : l <+: l') (hw : walkB l = false) : walkB l' = false := by
  obtain ⟨r, rfl⟩ := h
  cases e : walkB (l ++ r) with
  | false => rfl
  | true =>
    simp only [walkB, Bool.and_eq_true, List.all_append, decide_eq_true_eq, List.flatMap_append, List.length_append] at e
    have : walkB l = true := by
      simp only [walkB, Bool.and_eq_true, decide_eq_true_eq]
      exact ⟨e.1.1, by omega⟩
    rw [hw] at this
    cases this
theorem walk_snoc (l : List (Tr × Int)) (t : Tr) (d : Int) : walkB (l ++ [(t, d)]) = (walkB l && (lookB t d && decide ((l.flatMap fun x => x.1.ids).length + t.ids.length ≤ 16))) := by
  rw [Bool.eq_iff_iff]
  simp only [walkB, Bool.and_eq_true, List.all_append, decide_eq_true_eq, List.flatMap_append, List.length_append, List.all_cons, List.all_nil, Bool.and_true, List.flatMap_cons, List.flatMap_nil, List.append_nil]
  constructor
  · rintro ⟨⟨h1, h2⟩, h3⟩
    exact ⟨⟨h1, by omega⟩, h2, h3⟩
  · rintro ⟨⟨h1, h2⟩, h3, h4⟩
    exact ⟨⟨h1, h3⟩, h4⟩
theorem trie_walk (n : Nat) (t : Tr) (h : dpT n t) : trieB n t = (t.l.toList.isEmpty && (walkB (preT n t 0) && (nodupB (allT n t) && (allT n t).all fun x => inRange x 1 1000000000000))) := by
  rw [trie_impl, pre_look n t 0 h, walkB, pre_ids]
  simp only [Bool.and_assoc]
end Go.Proofs.YtcaabnnkjnleeaaDoor
