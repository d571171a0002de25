/- A slice of slots: copied by the law's helper, compared. No condition of its own. -/
import Derived.Test.YteaapglkomlnhaaHpIn
namespace Go.Proofs.Yteaapglkomlnhaa
open Go.ChangeShapes Go.WideShapes Go.ChangeAt Go.WideMaps Go.WideElems Go.RowKit

/-- A block that holds slots from its first cell on, each of which may be stored. -/
def RowSl (w : World) (g : Nat) (qs : List Sl) : Prop := g < w.heap.size ∧ (∀ t, t < qs.length * 2 → w.frozen? ⟨g, t, none⟩ = false) ∧ ∀ t, t < qs.length → SlAt w g (t * 2) qs[t]!
theorem RowSl.same {w w' : World} {g : Nat} {qs : List Sl} (h : RowSl w g qs) (hz : w.heap.size ≤ w'.heap.size) (hb : w'.heap[g]? = w.heap[g]?) : RowSl w' g qs :=
  ⟨Nat.lt_of_lt_of_le h.1 hz, fun t ht => by rw [World.frozen?, hb]; exact h.2.1 t ht, fun t ht => ⟨by rw [World.cell?, hb]; exact (h.2.2 t ht).1, by rw [World.cell?, hb]; exact (h.2.2 t ht).2⟩⟩
theorem RowSl.below {w w' : World} {g : Nat} {qs : List Sl} (h : RowSl w g qs) (hb : Below w.heap.size w w') : RowSl w' g qs := h.same hb.size (hb.block g h.1)
theorem RowSl.in {w : World} {g A B cap : Nat} {qs : List Sl} (h : RowSl w g qs) (hA : A ≤ g) (hB : g < B) (hc : qs.length ≤ cap) (hm : cap ≤ maxLen) : SlsIn w A B true (.slice (some ⟨g, 0, none⟩) qs.length cap) qs :=
  ⟨_, _, rfl, hc, hm, fun _ => ⟨g, 0, rfl, hA, hB, fun j hj => by
    have := h.2.2 j hj
    rw [getElem!_pos qs j hj] at this
    rw [Nat.zero_add]
    exact ⟨this, fun _ => ⟨h.2.1 _ (by omega), h.2.1 _ (by omega)⟩⟩⟩⟩
theorem RowSl.take {w : World} {g n : Nat} {qs : List Sl} (h : RowSl w g qs) : RowSl w g (qs.take n) := by
  have hl : (qs.take n).length ≤ qs.length := by rw [List.length_take]; omega
  refine ⟨h.1, fun t ht => h.2.1 t (by omega), fun t ht => ?_⟩
  rw [getElem!_pos _ t ht, List.getElem_take, ← getElem!_pos qs t (by omega)]
  exact h.2.2 t (by omega)
theorem info_slot : (Try.prog.info? 33).map (fun i => (i.zero, i.size, i.bytes)) = some (some (.agg #[.int .i64 0, .int .i64 0]), 2, 16) := by kernel_rfl
theorem make_slots (n : Nat) (hn : n ≤ 1048576) (w : World) : (Instr.makeSlice 25 (.int .i64 (n : Int)) (.int .i64 (n : Int))).run Try.prog w = .ok (.slice (some ⟨w.heap.size, 0, none⟩) n n) (w.alloc (.cells (madeCells #[.int .i64 0, .int .i64 0] (n * 2)) 33)) := by
  obtain ⟨i, hi, hzz⟩ := Option.map_eq_some_iff.1 info_slot
  simp only [Prod.mk.injEq] at hzz
  obtain ⟨hz, hs, hb⟩ := hzz
  have hr := run_make (P := Try.prog) w 25 33 i _ Try.underlying25 hi hz .i64 .i64 n n (by omega) (Int.le_refl _) (by rw [hb]; omega) (by omega)
  simp only [Int.toNat_natCast, hs] at hr
  exact hr
theorem frz0 {w : World} {g : Nat} {cs : Array Value} {t : TypeId} (h : w.heap[g]? = some (.cells cs t (0, 0))) (j : Nat) : w.frozen? ⟨g, j, none⟩ = false := by simp [World.frozen?, h]
theorem mk_free (w : World) (z : Array Value) (n : Nat) (e : TypeId) (t : Nat) : (w.alloc (.cells (madeCells z n) e)).frozen? ⟨w.heap.size, t, none⟩ = false := frz0 (heap_alloc_new w _) t
theorem mk_cell (w : World) (z : Array Value) (n : Nat) (e : TypeId) (t : Nat) (h : t < n) : ∃ u, (w.alloc (.cells (madeCells z n) e)).cell? ⟨w.heap.size, t, none⟩ = some u := by
  have hs : (madeCells z n).size = n := size_madeCells z n
  refine ⟨(madeCells z n)[t]'(by omega), ?_⟩
  rw [World.cell?_alloc_at _ _ _ _ rfl]
  exact Array.getElem?_eq_getElem (by omega)
/-- A slot stored. -/
def putSl (w : World) (B o : Nat) (q : Sl) : World := (w.setCell ⟨B, o, none⟩ (.int .i64 q.k)).setCell ⟨B, o + 1, none⟩ (.int .i64 q.i)
theorem cell_put_ne {w : World} {B o t : Nat} {u : Value} (h : o ≠ t) : (w.setCell ⟨B, o, none⟩ u).cell? ⟨B, t, none⟩ = w.cell? ⟨B, t, none⟩ := World.cell?_setCell_other _ _ _ _ (fun e => h (by injection e))
theorem cell_put_eq {w : World} {B o : Nat} {u old : Value} (h : w.cell? ⟨B, o, none⟩ = some old) : (w.setCell ⟨B, o, none⟩ u).cell? ⟨B, o, none⟩ = some u := World.cell?_setCell_same _ _ _ h
theorem putSl_frozen (w : World) (B o : Nat) (q : Sl) (a : Addr) : (putSl w B o q).frozen? a = w.frozen? a := by
  unfold putSl
  simp only [World.frozen?_setCell]
theorem putSl_size (w : World) (B o : Nat) (q : Sl) : (putSl w B o q).heap.size = w.heap.size := by
  unfold putSl
  simp [World.setCell]
theorem putSl_below {w0 w : World} {B0 B : Nat} (h : Below B0 w0 w) (hB : B0 ≤ B) (o : Nat) (q : Sl) : Below B0 w0 (putSl w B o q) := by
  unfold putSl
  exact (h.setCell (p := ⟨B, o, none⟩) hB _).setCell (p := ⟨B, o + 1, none⟩) hB _
theorem putSl_other {w : World} {B o t : Nat} {q : Sl} (h : t < o ∨ o + 2 ≤ t) : (putSl w B o q).cell? ⟨B, t, none⟩ = w.cell? ⟨B, t, none⟩ := by
  unfold putSl
  rw [cell_put_ne (by omega), cell_put_ne (by omega)]
theorem putSl_at {w : World} {B o : Nat} {q : Sl} (h0 : ∃ u, w.cell? ⟨B, o, none⟩ = some u) (h1 : ∃ u, w.cell? ⟨B, o + 1, none⟩ = some u) : SlAt (putSl w B o q) B o q := by
  obtain ⟨u0, k0⟩ := h0
  obtain ⟨u1, k1⟩ := h1
  unfold putSl
  refine ⟨?_, ?_⟩
  · rw [cell_put_ne (by omega)]
    exact cell_put_eq k0
  · exact cell_put_eq (old := u1) (by rw [cell_put_ne (by omega)]; exact k1)
theorem putSl_keeps {w : World} {B o t : Nat} {q x : Sl} (h : t + 2 ≤ o ∨ o + 2 ≤ t) (hx : SlAt w B t x) : SlAt (putSl w B o q) B t x :=
  ⟨(putSl_other (by omega)).trans hx.1, (putSl_other (by omega)).trans hx.2⟩
theorem putSl_some {w : World} {B o t : Nat} {q : Sl} (h0 : ∃ u, w.cell? ⟨B, o, none⟩ = some u) (h1 : ∃ u, w.cell? ⟨B, o + 1, none⟩ = some u) (ht : ∃ u, w.cell? ⟨B, t, none⟩ = some u) : ∃ u, (putSl w B o q).cell? ⟨B, t, none⟩ = some u := by
  by_cases hlt : t < o ∨ o + 2 ≤ t
  · rw [putSl_other hlt]
    exact ht
  · obtain ⟨c0, c1⟩ := putSl_at (q := q) h0 h1
    rcases show t = o ∨ t = o + 1 by omega with rfl | rfl
    · exact ⟨_, c0⟩
    · exact ⟨_, c1⟩
/-- Every other block stands as it stood. -/
structure ButB (g : Nat) (w w' : World) : Prop where
  b0 : Below 0 w w'
  block : ∀ k, k < w.heap.size → k ≠ g → w'.heap[k]? = w.heap[k]?
theorem ButB.refl (g : Nat) (w : World) : ButB g w w := ⟨Below.refl _ _, fun _ _ _ => rfl⟩
theorem ButB.trans {g : Nat} {a b c : World} (h : ButB g a b) (k : ButB g b c) : ButB g a c :=
  ⟨h.b0.trans k.b0, fun j h1 h2 => (k.block j (Nat.lt_of_lt_of_le h1 h.b0.size) h2).trans (h.block j h1 h2)⟩
theorem ButB.of_below {g : Nat} {w w' : World} (h : Below w.heap.size w w') : ButB g w w' := ⟨h.mono (Nat.zero_le _), fun k hk _ => h.block k hk⟩
theorem ButB.drew {g : Nat} {a w : World} (h : ButB g a w) : ButB g a w.drew := ⟨h.b0.drew, h.block⟩
theorem ButB.put {g : Nat} {a w : World} (h : ButB g a w) (o : Nat) (q : Sl) : ButB g a (putSl w g o q) :=
  ⟨putSl_below h.b0 (Nat.zero_le _) o q, fun k hk hg => by
    unfold putSl
    rw [Below.heap_setCell _ _ _ _ hg, Below.heap_setCell _ _ _ _ hg]
    exact h.block k hk hg⟩
theorem ButB.below {g B : Nat} {w w' : World} (h : ButB g w w') (hB : B ≤ g) (hz : B ≤ w.heap.size) : Below B w w' :=
  ⟨h.b0.os, h.b0.tape, h.b0.output, h.b0.size, fun k hk => h.block k (Nat.lt_of_lt_of_le hk hz) (by omega)⟩
theorem RowSl.put {w : World} {g j : Nat} {qs : List Sl} {q : Sl} (h : RowSl w g qs) (hj : j < qs.length) : RowSl (putSl w g (j * 2) q) g (qs.set j q) := by
  refine ⟨by rw [putSl_size]; exact h.1, fun t ht => by rw [putSl_frozen]; exact h.2.1 t (by simpa using ht), fun t ht => ?_⟩
  have ht' : t < qs.length := by simpa using ht
  by_cases e : t = j
  · subst e
    rw [getElem!_pos _ t ht, List.getElem_set_self]
    exact putSl_at ⟨_, (h.2.2 t ht').1⟩ ⟨_, (h.2.2 t ht').2⟩
  · rw [getElem!_pos _ t ht, List.getElem_set_ne (by omega), ← getElem!_pos qs t ht']
    exact putSl_keeps (by omega) (h.2.2 t ht')
/-- What has been copied behind k slots. -/
def CpSRel (w : World) (B : Nat) (qs : List Sl) (i : Value) (wr : World) : Prop :=
  ∃ j : Nat, j ≤ qs.length ∧ i = .int .i64 j ∧ (∀ t, t < qs.length * 2 → wr.frozen? ⟨B, t, none⟩ = false) ∧ (∀ t, t < j → SlAt wr B (t * 2) qs[t]!) ∧ (∀ t, t < qs.length * 2 → ∃ u, wr.cell? ⟨B, t, none⟩ = some u) ∧ Below B w wr ∧ B < wr.heap.size
set_option maxHeartbeats 2000000 in
set_option maxRecDepth 100000 in
theorem toSlots_any (v : Value) (qs : List Sl) (A B : Nat) (z : Bool) (w : World) (hl : qs.length ≤ 1048576) (hBw : B ≤ w.heap.size) (hv : SlsIn w A B z v qs) : Calls Try.prog 12 #[v] w fun e w' => e = .returned (.slice (some ⟨w.heap.size, 0, none⟩) qs.length qs.length) ∧ RowSl w' w.heap.size qs ∧ Below w.heap.size w w' := by
  obtain ⟨a, cap, rfl, hle, hcm, hx⟩ := hv
  have HX := Lib.hid hx
  clear hx
  have hmk := make_slots qs.length hl
  go_enter Try.func12, Try.ntmps12
  go_wp2
  clear hmk
  go_loopw [4] (fun i wr => CpSRel w w.heap.size qs i wr) (fun i _ => qs.length - (intOf i).toNat)
  case atStart =>
    exact ⟨0, Nat.zero_le _, rfl, fun t ht => mk_free w _ _ _ t, fun t ht => by omega, fun t ht => mk_cell w _ _ _ t ht, (Below.refl _ _).alloc (Nat.le_refl _) _, by simp⟩
  case round =>
    obtain ⟨j, hj, rfl, hf, hm, hc, hb, hz⟩ := hrel
    have HF := Lib.hid hf
    have HM := Lib.hid hm
    have HC := Lib.hid hc
    have HB := Lib.hid hb
    clear hf hm hc hb
    by_cases hlt : j < qs.length
    · obtain ⟨b, off, rfl, _, hlb, hcell⟩ := HX.out (by omega)
      obtain ⟨q, hq⟩ : ∃ q : Sl, qs[j] = q := ⟨_, rfl⟩
      have hck := (hcell j hlt).1.below HB.out (by omega)
      rw [hq] at hck
      have HQ : Hid (qs[j]! = q) := Lib.hid (by rw [getElem!_pos qs j hlt]; exact hq)
      obtain ⟨c0, c1⟩ := hck
      have s1 : (j : Int) < qs.length := by omega
      clear hcell hq
      go_wp2_with fail
      refine (toSlot_any q _).mono ?_
      rintro e w1 ⟨rfl, hb1⟩
      have HB1 := Lib.hid (HB.out.trans (hb1.mono (Nat.le_of_lt hz)))
      have HF1 : Hid (∀ t, t < qs.length * 2 → w1.frozen? ⟨w.heap.size, t, none⟩ = false) := Lib.hid fun t ht => by rw [World.frozen?, hb1.block _ hz]; exact HF.out t ht
      have HC1 : Hid (∀ t, t < qs.length * 2 → ∃ u, w1.cell? ⟨w.heap.size, t, none⟩ = some u) := Lib.hid fun t ht => by
        obtain ⟨u, hu⟩ := HC.out t ht
        exact ⟨u, (hb1.cell (p := ⟨w.heap.size, t, none⟩) hz).trans hu⟩
      have HM1 : Hid (∀ t, t < j → SlAt w1 w.heap.size (t * 2) qs[t]!) := Lib.hid fun t htj => (HM.out t htj).below hb1 hz
      have hz1 := Nat.lt_of_lt_of_le hz hb1.size
      clear hb1 c0 c1
      obtain ⟨o0, k0⟩ := HC1.out (j * 2) (by omega)
      have f0 := HF1.out (j * 2) (by omega)
      obtain ⟨o1, k1⟩ := HC1.out (j * 2 + 1) (by omega)
      have f1 := HF1.out (j * 2 + 1) (by omega)
      go_wp2_with fail
      go_roundw
      case rel =>
        show CpSRel w w.heap.size qs _ (putSl w1 w.heap.size (j * 2) q)
        refine ⟨j + 1, by omega, by go_num, fun t ht => by rw [putSl_frozen]; exact HF1.out t ht, fun t ht => ?_, fun t ht => putSl_some ⟨_, k0⟩ ⟨_, k1⟩ (HC1.out t ht), putSl_below HB1.out (Nat.le_refl _) _ _, by rw [putSl_size]; exact hz1⟩
        by_cases e : t = j
        · rw [e, HQ.out]
          exact putSl_at ⟨_, k0⟩ ⟨_, k1⟩
        · exact putSl_keeps (by omega) (HM1.out t (by omega))
      case measure => simp [intOf]; omega
    · obtain rfl : j = qs.length := by omega
      go_wp2
      go_ret
      exact ⟨rfl, ⟨hz, HF.out, HM.out⟩, HB.out⟩
end Go.Proofs.Yteaapglkomlnhaa
