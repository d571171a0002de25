/- A law's argument of a trie, opened: no deeper than it weighs. No condition of its own. -/
import Derived.Test.YtcaabnnkjnleeaaDoorTrSz
import Derived.Test.YtcaabnnkjnleeaaDoorTrPre
namespace Go.Proofs.YtcaabnnkjnleeaaDoor
open Go.ChangeShapes Go.WideShapes Go.ChangeAt Go.WideMaps Go.WideElems Go.RowKit

theorem kid_weighs {n : Nat} {ks : List Tr} {k : Tr} (h : k ∈ ks) : wtT n k + 1 ≤ ks.length + (ks.map (wtT n)).sum := by
  induction ks with
  | nil => cases h
  | cons y ks ih =>
    simp only [List.map_cons, List.sum_cons, List.length_cons]
    rcases List.mem_cons.1 h with rfl | h
    · omega
    · have := ih h
      omega
theorem wt_same : ∀ (n m : Nat) (t : Tr), dpT n t → dpT m t → wtT n t = wtT m t
  | 0, _, _, h, _ => h.elim
  | _ + 1, 0, _, _, h => h.elim
  | n + 1, m + 1, t, h, h' => by
    have : ∀ ks : List Tr, (∀ k ∈ ks, dpT n k) → (∀ k ∈ ks, dpT m k) → ks.map (wtT n) = ks.map (wtT m) := by
      intro ks
      induction ks with
      | nil => intros; rfl
      | cons k ks ih =>
        intro g g'
        simp only [List.map_cons]
        rw [wt_same n m k (g k (by simp)) (g' k (by simp)), ih (fun x hx => g x (by simp [hx])) (fun x hx => g' x (by simp [hx]))]
    simp only [wtT, this t.ks h h']
/-- A trie is no deeper than it weighs. -/
theorem NodeIn.cut {w : World} {A B : Nat} {z : Bool} : ∀ (n m : Nat) (t : Tr) (vi vk : Value), NodeIn w A B z n t vi vk → wtT n t ≤ m → NodeIn w A B z (m + 1) t vi vk
  | 0, _, _, _, _, h, _ => h.elim
  | n + 1, m, t, vi, vk, ⟨hi, a, cap, hv, h1, h2, h3⟩, hm => by
    refine ⟨hi, a, cap, hv, h1, h2, fun h0 => ?_⟩
    obtain ⟨g, off, rfl, h4, h5, h6⟩ := h3 h0
    refine ⟨g, off, rfl, h4, h5, fun j hj => ?_⟩
    obtain ⟨k1, k2, k3, ui, uk, k4, k5, k6⟩ := h6 j hj
    have hk := kid_weighs (n := n) (List.getElem_mem hj)
    have hw : wtT (n + 1) t = t.l.size + t.ids.length + (t.ks.length + (t.ks.map (wtT n)).sum) := rfl
    cases m with
    | zero => omega
    | succ m => exact ⟨k1, k2, k3, ui, uk, k4, k5, NodeIn.cut n m _ ui uk k6 (by omega)⟩
theorem open_node {H : Type} {enc : TypeId × Value → H} {P : Program} {W : World} {b0 : Nat} {r : Reach} {tn ts tk ti t0 : TypeId} {fs : Array Field} {v : Value} {d : DataW H} {p : List MemPlace}
    (hs : P.underlying tn = some (.struct fs)) (hone : Go.Deep.oneCellFields P fs = true) (hn : fs.size = 3) (hC : P.cellsOf tn = 3) (hty : fs.toList.map (·.type) = [ts, ti, tk])
    (hS : P.underlying ts = some .string) (hI : P.underlying ti = some (.slice t0)) (hI0 : P.underlying t0 = some (.int .i64)) (hc0 : P.cellsOf t0 = 1) (hK : P.underlying tk = some (.slice tn))
    (hv : Value.okWide P W r b0 tn v) (h : DataW.Trod enc P W 0 (fun _ => true) true tn v d p) :
    ∃ (n : Nat) (t : Tr) (vi vk : Value), v = .agg #[.string t.l, vi, vk] ∧ t.l.size ≤ maxLen ∧ NodeIn W 0 W.heap.size false n t vi vk := by
  obtain ⟨cs, rfl, hsz⟩ := okWide_struct hs hv
  obtain ⟨fuel, hf⟩ := h
  obtain ⟨xs, m, hxs, _, hlen, _, _⟩ := DataW.trod_struct hs hf
  have hl : cs.toList.length = 3 := by
    simp at hsz ⊢
    omega
  obtain ⟨n, t, vi, vk, he, hm, hN⟩ := node_in hs hone hn hC hty hS hI hI0 hc0 hK fuel cs.toList (d, p) hl hf
  refine ⟨n, t, vi, vk, ?_, hm, hN⟩
  congr 1
  apply Array.toList_inj.1
  exact he
end Go.Proofs.YtcaabnnkjnleeaaDoor
