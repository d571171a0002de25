/- Slots appended. No condition of its own. -/
import Derived.Test.YteaapglkomlnhaaHpDown
import Derived.OwnWalk
import Derived.Laws.AppendOwn
import Derived.Deep.Upon
namespace Go.Proofs.Yteaapglkomlnhaa
open Go.ChangeShapes Go.WideShapes Go.ChangeAt Go.WideMaps Go.WideElems Go.RowKit

def cellsS : List Sl → List Value
  | [] => []
  | q :: qs => .int .i64 q.k :: .int .i64 q.i :: cellsS qs
theorem cellsS_length : ∀ qs : List Sl, (cellsS qs).length = qs.length * 2
  | [] => rfl
  | q :: qs => by
    simp only [cellsS, List.length_cons, cellsS_length qs]
    omega
theorem cellsS_append : ∀ a b : List Sl, cellsS (a ++ b) = cellsS a ++ cellsS b
  | [], b => rfl
  | q :: qs, b => by
    simp only [List.cons_append, cellsS, cellsS_append qs b]
theorem one_cellsS : ∀ qs : List Sl, ∀ u ∈ cellsS qs, u.oneCell' = true
  | [], u, h => by cases h
  | q :: qs, u, h => by
    simp only [cellsS, List.mem_cons] at h
    rcases h with rfl | rfl | h
    · rfl
    · rfl
    · exact one_cellsS qs u h
theorem cellsS_at : ∀ (qs : List Sl) (j : Nat) (h : j < qs.length), (cellsS qs)[j * 2]? = some (.int .i64 qs[j].k) ∧ (cellsS qs)[j * 2 + 1]? = some (.int .i64 qs[j].i)
  | [], j, h => by simp at h
  | q :: qs, 0, h => ⟨rfl, rfl⟩
  | q :: qs, j + 1, h => by
    have := cellsS_at qs j (by simpa using h)
    rw [show (j + 1) * 2 = j * 2 + 2 by omega]
    exact this
theorem src_slots {w : World} {A B : Nat} {z : Bool} {oa : Option Addr} {m c : Nat} {rs : List Sl} (h : SlsIn w A B z (.slice oa m c) rs) : (m = 0 ∧ cellsS rs = []) ∨ ((cellsS rs).length = m * 2 ∧ ∃ ad, oa = some ad ∧ ∀ j u, (cellsS rs)[j]? = some u → w.cell? (ad.add j) = some u) := by
  obtain ⟨a, cap, e, _, _, hx⟩ := h
  injection e with e1 e2 e3
  subst e1 e2 e3
  by_cases hn : 0 < rs.length
  · right
    obtain ⟨g, off, rfl, _, _, hc⟩ := hx hn
    refine ⟨cellsS_length rs, ⟨g, off, none⟩, rfl, fun j u hu => ?_⟩
    have hj := (List.getElem?_eq_some_iff.1 hu).1
    rw [cellsS_length] at hj
    rw [Go.WideShapes.add_plain]
    obtain ⟨h0, h1⟩ := cellsS_at rs (j / 2) (by omega)
    obtain ⟨⟨d0, d1⟩, _⟩ := hc (j / 2) (by omega)
    rcases Nat.mod_two_eq_zero_or_one j with hm | hm
    · rw [show j = j / 2 * 2 by omega] at hu ⊢
      rw [h0] at hu
      rw [d0]
      exact hu
    · rw [show j = j / 2 * 2 + 1 by omega] at hu ⊢
      rw [h1] at hu
      rw [← Nat.add_assoc, d1]
      exact hu
  · left
    have : rs = [] := List.eq_nil_of_length_eq_zero (by omega)
    subst this
    exact ⟨rfl, rfl⟩
/-- A slice of slots that owns its block. -/
def OwnSl (w : World) (base g cap : Nat) (qs : List Sl) : Prop := w.ownsRow base 33 2 (.slice (some ⟨g, 0, none⟩) qs.length cap) qs.length (cellsS qs)
theorem OwnSl.row {w : World} {base g cap : Nat} {qs : List Sl} (h : OwnSl w base g cap qs) : base ≤ g ∧ qs.length ≤ cap ∧ cap ≤ maxLen ∧ RowSl w g qs := by
  obtain ⟨_, h | ⟨g', cap', cur, e0, hb, hh, h1, h2, _, h4⟩⟩ := h
  · cases h.1
  · injection e0 with e1 e2 e3
    injection e1 with e1
    injection e1 with e1
    subst e1 e3
    refine ⟨hb, h1, h2, (Array.getElem?_eq_some_iff.1 hh).1, fun t _ => frz0 hh t, fun t ht => ?_⟩
    obtain ⟨a0, a1⟩ := cellsS_at qs t ht
    have at_ : ∀ j u, (cellsS qs)[j]? = some u → w.cell? ⟨g, j, none⟩ = some u := by
      intro j u hu
      rw [← h4] at hu
      have hj : j < qs.length * 2 := by
        have := (List.getElem?_eq_some_iff.1 hu).1
        rw [List.length_take] at this
        omega
      rw [List.getElem?_take_of_lt hj] at hu
      simp only [World.cell?, hh]
      simpa using hu
    rw [getElem!_pos qs t ht]
    exact ⟨at_ _ _ a0, at_ _ _ a1⟩
theorem OwnSl.block {w w' : World} {base g cap : Nat} {qs : List Sl} (h : OwnSl w base g cap qs) (hb : w'.heap[g]? = w.heap[g]?) : OwnSl w' base g cap qs := by
  obtain ⟨hl, h | ⟨g', cap', cur, e0, hh, h1⟩⟩ := h
  · cases h.1
  · refine ⟨hl, .inr ⟨g', cap', cur, e0, hh, ?_, h1.2⟩⟩
    injection e0 with e1
    injection e1 with e1
    injection e1 with e1
    subst e1
    rw [hb]
    exact h1.1
theorem OwnSl.empty (w : World) (base : Nat) (hb : base ≤ w.heap.size) : OwnSl (w.alloc (.cells #[] 33)) base w.heap.size 0 [] := ⟨rfl, .inr ⟨w.heap.size, 0, #[], rfl, hb, heap_alloc_new _ _, Nat.le_refl _, Nat.zero_le _, rfl, rfl⟩⟩
theorem append_sl_run (w : World) (t1 : TypeId) (ty : TypeId) (ht : Try.prog.underlying t1 = some (.slice 33)) (base g0 cap0 : Nat) (ps : List Sl) (hown : OwnSl w base g0 cap0 ps)
    (A B : Nat) (z : Bool) (oa : Option Addr) (m c : Nat) (rs : List Sl) (hsrc : SlsIn w A B z (.slice oa m c) rs) (hl : ps.length + rs.length ≤ 2097152) (hbase : base ≤ w.heap.size) :
    ∃ g cap w', (Builtin.append_ #[t1, t1] ty #[.slice (some ⟨g0, 0, none⟩) ps.length cap0, .slice oa m c]).run Try.prog w = .ok (.slice (some ⟨g, 0, none⟩) (ps ++ rs).length cap) w' ∧ OwnSl w' base g cap (ps ++ rs) ∧ w.grownBy w' (some g0) := by
  obtain ⟨i0, hi0, hzz⟩ := Option.map_eq_some_iff.1 info_slot
  simp only [Prod.mk.injEq] at hzz
  obtain ⟨hz0, hz1, hz2⟩ := hzz
  have hm : m = rs.length := by
    obtain ⟨a, cap, e, _⟩ := hsrc
    injection e
  rcases src_slots hsrc with ⟨rfl, he⟩ | ⟨hlen, ad, rfl, hnews⟩
  · have hr0 : rs = [] := List.eq_nil_of_length_eq_zero hm.symm
    subst hr0
    have hS : Src Try.prog i0.size t1 (.slice oa 0 c) 0 [] w := by
      cases oa with
      | none =>
        obtain ⟨a, cap, e, hle, _⟩ := hsrc
        exact Src.ofNil w ht c
      | some ad => exact Src.ofSlice w ht ad 0 c [] (by simp) (by simp) (by simp)
    refine ⟨g0, cap0, w, ?_, by rw [List.append_nil]; exact hown, ⟨rfl, rfl, rfl, Nat.le_refl _, fun _ _ _ => rfl⟩⟩
    rw [List.append_nil]
    exact run_append_nothing w t1 t1 ty 33 i0 ht hi0 _ ps.length cap0 hown.row.2.1 _ hS
  · obtain ⟨v', w', hr, h2, h3, h4⟩ := run_append_own (P := Try.prog) w base t1 ty 33 i0 _ 2 16 ht hi0 hz0 hz1 hz2 rfl (by decide) _ ps.length (cellsS ps) hown ad m c (cellsS rs) hlen hnews (one_cellsS rs) (by unfold maxLen; omega) (by omega) hbase
    rw [hm, ← cellsS_append] at h2
    rw [← List.length_append] at h2
    obtain ⟨hl2, hh | ⟨g, cap, cur, rfl, hrest⟩⟩ := id h2
    · have := (h4.1 hh.1).1
      cases this
    · exact ⟨g, cap, w', hr, h2, h3⟩
theorem wpList_append_sl {w : World} {ops : Array Oper} {rest : List Oper} {o : Oper} {a : Act} {Q : Exit → Act → World → Prop} (hgd : o.guard = none) (s x : Operand) (t1 : TypeId)
    (ho : o.op = .call { callee := .builtin .append, args := #[s, x], argTypes := #[t1, t1] }) (ht : Try.prog.underlying t1 = some (.slice 33))
    (base g0 cap0 n0 : Nat) (ps : List Sl) (hn0 : n0 = ps.length) (hs : a.eval s = .slice (some ⟨g0, 0, none⟩) n0 cap0) (hown : OwnSl w base g0 cap0 ps)
    (A B : Nat) (z : Bool) (oa : Option Addr) (m c : Nat) (rs : List Sl) (hx : a.eval x = .slice oa m c) (hsrc : SlsIn w A B z (.slice oa m c) rs) (hl : ps.length + rs.length ≤ 2097152) (hbase : base ≤ w.heap.size) (N : Nat) (hN : N = (ps ++ rs).length)
    (h : ∀ g cap w', OwnSl w' base g cap (ps ++ rs) → w.grownBy w' (some g0) → wpList Try.prog ops Q rest (a.put o.dst (.slice (some ⟨g, 0, none⟩) N cap)) w') : wpList Try.prog ops Q (o :: rest) a w := by
  subst hn0 hN
  obtain ⟨g, cap, w', hr, h2, h3⟩ := append_sl_run w t1 o.type ht base g0 cap0 ps hown A B z oa m c rs hsrc hl hbase
  refine wpList_plain hgd fun _ hK => ?_
  unfold Oper.wp execOp
  simp only [ho, resolve, invoke, builtin, Sem.run_bind, Sem.run_pure, Result.andThen_ok, List.map_toArray, List.map_cons, List.map_nil, hs, hx, hr]
  exact hK _ _ (h g cap w' h2 h3)
theorem grow_below {w w1 w' : World} {B g : Nat} (h : Below B w w1) (hg : w1.grownBy w' (some g)) (hr : B ≤ g) (hB : B ≤ w1.heap.size) : Below B w w' :=
  ⟨hg.os.trans h.os, hg.tape.trans h.tape, hg.output.trans h.output, Nat.le_trans h.size hg.size, fun k hk => (hg.block k (Nat.lt_of_lt_of_le hk hB) (fun e => by have := Option.some.inj e; omega)).trans (h.block k hk)⟩
end Go.Proofs.Yteaapglkomlnhaa
