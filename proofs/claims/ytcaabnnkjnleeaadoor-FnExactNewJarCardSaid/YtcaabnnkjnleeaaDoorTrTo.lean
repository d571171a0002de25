/- The law's copy of a node: a trie of its own. No condition of its own. -/
import Derived.Test.YtcaabnnkjnleeaaDoorTrSz
import Derived.Deep.OwnRows
namespace Go.Proofs.YtcaabnnkjnleeaaDoor
open Go.ChangeShapes Go.WideShapes Go.ChangeAt Go.WideMaps Go.WideElems Go.RowKit

theorem IntsIn.keep {w w' : World} {A B : Nat} {z : Bool} {v : Value} {zs : List Int} (h : IntsIn w A B z v zs) (hk : ∀ k, A ≤ k → k < B → w'.heap[k]? = w.heap[k]?) : IntsIn w' A B z v zs := by
  obtain ⟨a, cap, rfl, h1, h2, h3⟩ := h
  refine ⟨a, cap, rfl, h1, h2, fun h0 => ?_⟩
  obtain ⟨g, off, rfl, h4, h5, h6⟩ := h3 h0
  exact ⟨g, off, rfl, h4, h5, fun j hj => ⟨by rw [World.cell?, hk g h4 h5]; exact (h6 j hj).1, fun hz => by rw [World.frozen?, hk g h4 h5]; exact (h6 j hj).2 hz⟩⟩
theorem NodeIn.keep {w w' : World} {A B : Nat} {z : Bool} (hk : ∀ k, A ≤ k → k < B → w'.heap[k]? = w.heap[k]?) : ∀ {n : Nat} {t : Tr} {vi vk : Value}, NodeIn w A B z n t vi vk → NodeIn w' A B z n t vi vk
  | 0, _, _, _, h => h.elim
  | n + 1, t, vi, vk, ⟨hi, a, cap, hv, h1, h2, h3⟩ => by
    refine ⟨hi.keep hk, a, cap, hv, h1, h2, fun h0 => ?_⟩
    obtain ⟨g, off, rfl, h4, h5, h6⟩ := h3 h0
    refine ⟨g, off, rfl, h4, h5, fun j hj => ?_⟩
    obtain ⟨k1, k2, k3, ui, uk, k4, k5, k6⟩ := h6 j hj
    exact ⟨k1, fun hz f hf => by rw [World.frozen?, hk g h4 h5]; exact k2 hz f hf, by rw [World.cell?, hk g h4 h5]; exact k3, ui, uk, by rw [World.cell?, hk g h4 h5]; exact k4, by rw [World.cell?, hk g h4 h5]; exact k5, NodeIn.keep hk k6⟩
theorem KidsIn.keep {w w' : World} {A B n : Nat} {z : Bool} {v : Value} {ks : List Tr} (h : KidsIn w A B z n v ks) (hk : ∀ k, A ≤ k → k < B → w'.heap[k]? = w.heap[k]?) : KidsIn w' A B z n v ks := by
  obtain ⟨a, cap, hv, h1, h2, h3⟩ := h
  refine ⟨a, cap, hv, h1, h2, fun h0 => ?_⟩
  obtain ⟨g, off, rfl, h4, h5, h6⟩ := h3 h0
  refine ⟨g, off, rfl, h4, h5, fun j hj => ?_⟩
  obtain ⟨k1, k2, k3, ui, uk, k4, k5, k6⟩ := h6 j hj
  exact ⟨k1, fun hz f hf => by rw [World.frozen?, hk g h4 h5]; exact k2 hz f hf, by rw [World.cell?, hk g h4 h5]; exact k3, ui, uk, by rw [World.cell?, hk g h4 h5]; exact k4, by rw [World.cell?, hk g h4 h5]; exact k5, k6.keep hk⟩
theorem info_int : (Tryd.prog.info? 3).map (fun i => (i.zero, i.size, i.bytes)) = some (some (.int .i64 0), 1, 8) := by kernel_rfl
theorem froz0 {w : World} {g : Nat} {cs : Array Value} {t : TypeId} (h : w.heap[g]? = some (.cells cs t (0, 0))) (j : Nat) : w.frozen? ⟨g, j, none⟩ = false := by simp [World.frozen?, h]
theorem mads_free (w : World) (z : Array Value) (n : Nat) (e : TypeId) (t : Nat) : (w.alloc (.cells (madeCells z n) e)).frozen? ⟨w.heap.size, t, none⟩ = false := froz0 (heap_alloc_new w _) t
theorem mads_cell (w : World) (z : Array Value) (n : Nat) (e : TypeId) (t : Nat) (h : t < n) : ∃ u, (w.alloc (.cells (madeCells z n) e)).cell? ⟨w.heap.size, t, none⟩ = some u := by
  have hs : (madeCells z n).size = n := size_madeCells z n
  refine ⟨(madeCells z n)[t]'(by omega), ?_⟩
  rw [World.cell?_alloc_at _ _ _ _ rfl]
  exact Array.getElem?_eq_getElem (by omega)
def CopyI (w : World) (ps : List Int) (i : Value) (wr : World) : Prop :=
  ∃ j : Nat, j ≤ ps.length ∧ i = .int .i64 j ∧ (∀ t, t < ps.length → wr.frozen? ⟨w.heap.size, t, none⟩ = false) ∧ (∀ t (ht : t < ps.length), t < j → wr.cell? ⟨w.heap.size, t, none⟩ = some (.int .i64 ps[t])) ∧ (∀ t, t < ps.length → ∃ u, wr.cell? ⟨w.heap.size, t, none⟩ = some u) ∧ Below w.heap.size w wr ∧ w.heap.size < wr.heap.size
theorem toInts_any (v : Value) (ps : List Int) (A B : Nat) (z : Bool) (w : World) (hl : ps.length ≤ 1048576) (hB : B ≤ w.heap.size) (hv : IntsIn w A B z v ps) : Calls Tryd.prog 40 #[v] w fun e w' => ∃ u, e = .returned u ∧ IntsIn w' w.heap.size w'.heap.size true u ps ∧ Below w.heap.size w w' := by
  obtain ⟨a, cap, rfl, hle, hcm, hx⟩ := hv
  have HX := Lib.hid hx
  clear hx
  have hmk := run_make_row' (P := Tryd.prog) 22 3 (.int .i64 0) 8 Tryd.underlying22 info_int rfl .i64 .i64 ps.length (by omega) (by omega)
  have hrow := World.rowIs_made w (.int .i64 0) ps.length 3
  have HR := Lib.hid hrow
  clear hrow
  go_enter Tryd.func40, Tryd.ntmps40
  go_wp2
  clear hmk
  go_loopw [4] (fun i wr => CopyI w ps i wr) (fun i _ => ps.length - (intOf i).toNat)
  case atStart =>
    refine ⟨0, Nat.zero_le _, rfl, fun t ht => ?_, fun t _ ht => by omega, fun t ht => ?_, (Below.refl _ _).alloc (Nat.le_refl _) _, by simp⟩
    · exact mads_free w _ _ _ t
    · exact mads_cell w _ _ _ t ht
  case round =>
    obtain ⟨j, hj, rfl, hf, hm, hc, hb, hz⟩ := hrel
    have HF := Lib.hid hf
    have HM := Lib.hid hm
    have HC := Lib.hid hc
    have HB := Lib.hid hb
    clear hf hm hc hb
    by_cases hlt : j < ps.length
    · obtain ⟨b, off, rfl, _, hlb, hcell⟩ := HX.out (by omega)
      obtain ⟨u, hu⟩ : ∃ u : Int, ps[j] = u := ⟨_, rfl⟩
      have HU := Lib.hid hu
      have c1 : wr.cell? ⟨b, off + j, none⟩ = some (.int .i64 u) := by rw [← hu]; exact (HB.out.cell (p := ⟨b, off + j, none⟩) (by show b < _; omega)).trans (hcell j hlt).1
      obtain ⟨old, hold⟩ := HC.out j hlt
      have hfz := HF.out j hlt
      have s1 : (j : Int) < ps.length := by omega
      clear hcell hu
      go_wp2
      go_roundw
      case rel =>
        refine ⟨j + 1, by omega, by go_num, fun t ht => ?_, fun t ht htj => ?_, fun t ht => ?_, HB.out.setCell (p := ⟨w.heap.size, j, none⟩) (Nat.le_refl _) _, by simp [World.setCell]; omega⟩
        · rw [World.frozen?_setCell]
          exact HF.out t ht
        · by_cases e : t = j
          · subst e
            rw [HU.out]
            exact World.cell?_setCell_same _ _ _ hold
          · rw [World.cell?_setCell_other _ _ _ _ (fun h => e (by injection h with _ h2; exact h2.symm))]
            exact HM.out t ht (by omega)
        · by_cases e : t = j
          · subst e
            exact ⟨_, World.cell?_setCell_same _ _ _ hold⟩
          · rw [World.cell?_setCell_other _ _ _ _ (fun h => e (by injection h with _ h2; exact h2.symm))]
            exact HC.out t ht
      case measure => simp [intOf]; omega
    · obtain rfl : j = ps.length := by omega
      go_wp2
      go_ret
      exact ⟨_, rfl, ⟨_, _, rfl, Nat.le_refl _, by unfold maxLen; omega, fun _ => ⟨_, 0, rfl, Nat.le_refl _, hz, fun t ht => by rw [Nat.zero_add]; exact ⟨HM.out t ht ht, fun _ => HF.out t ht⟩⟩⟩, HB.out⟩
theorem NodeIn.forms {w : World} {A B n : Nat} {z : Bool} {t : Tr} {vi vk : Value} (h : NodeIn w A B z n t vi vk) : (∃ a l c, vi = .slice a l c) ∧ ∃ a l c, vk = .slice a l c := by
  cases n with
  | zero => exact h.elim
  | succ n =>
    obtain ⟨⟨a, c, h1, _⟩, a2, c2, h2, _⟩ := h
    exact ⟨⟨a, _, c, h1⟩, a2, _, c2, h2⟩
theorem info_node : (Tryd.prog.info? 30).map (fun i => (i.zero, i.size, i.bytes)) = some (some (.agg #[.string ByteArray.empty, .slice none 0 0, .slice none 0 0]), 3, 64) := by kernel_rfl
theorem make_nodes (n : Nat) (hn : n ≤ 1048576) (w : World) : (Instr.makeSlice 28 (.int .i64 (n : Int)) (.int .i64 (n : Int))).run Tryd.prog w = .ok (.slice (some ⟨w.heap.size, 0, none⟩) n n) (w.alloc (.cells (madeCells #[.string ByteArray.empty, .slice none 0 0, .slice none 0 0] (n * 3)) 30)) := by
  obtain ⟨i, hi, hzz⟩ := Option.map_eq_some_iff.1 info_node
  simp only [Prod.mk.injEq] at hzz
  obtain ⟨hz, hs, hb⟩ := hzz
  have hr := run_make (P := Tryd.prog) w 28 30 i _ Tryd.underlying28 hi hz .i64 .i64 n n (by omega) (Int.le_refl _) (by rw [hb]; omega) (by omega)
  simp only [Int.toNat_natCast, hs] at hr
  exact hr
theorem kid_light {n : Nat} {ks : List Tr} {k : Tr} (h : k ∈ ks) : wtT n k ≤ wtK n ks := by
  unfold wtK
  induction ks with
  | nil => cases h
  | cons y ks ih =>
    simp only [List.map_cons, List.sum_cons]
    rcases List.mem_cons.1 h with rfl | h
    · omega
    · have := ih h
      omega
def put3 (w : World) (g o : Nat) (l : ByteArray) (ui uk : Value) : World := ((w.setCell ⟨g, o, none⟩ (.string l)).setCell ⟨g, o + 1, none⟩ ui).setCell ⟨g, o + 2, none⟩ uk
theorem nput_ne {w : World} {B o t : Nat} {u : Value} (h : o ≠ t) : (w.setCell ⟨B, o, none⟩ u).cell? ⟨B, t, none⟩ = w.cell? ⟨B, t, none⟩ := World.cell?_setCell_other _ _ _ _ (fun e => h (by injection e))
theorem nput_eq {w : World} {B o : Nat} {u old : Value} (h : w.cell? ⟨B, o, none⟩ = some old) : (w.setCell ⟨B, o, none⟩ u).cell? ⟨B, o, none⟩ = some u := World.cell?_setCell_same _ _ _ h
theorem put3_free (w : World) (g o : Nat) (l : ByteArray) (ui uk : Value) (a : Addr) : (put3 w g o l ui uk).frozen? a = w.frozen? a := by
  unfold put3
  simp only [World.frozen?_setCell]
theorem put3_size (w : World) (g o : Nat) (l : ByteArray) (ui uk : Value) : (put3 w g o l ui uk).heap.size = w.heap.size := by
  unfold put3
  simp [World.setCell]
theorem put3_block (w : World) (g o : Nat) (l : ByteArray) (ui uk : Value) (k : Nat) (hk : k ≠ g) : (put3 w g o l ui uk).heap[k]? = w.heap[k]? := by
  unfold put3
  rw [Below.heap_setCell _ _ _ _ hk, Below.heap_setCell _ _ _ _ hk, Below.heap_setCell _ _ _ _ hk]
theorem put3_below {w0 w : World} {B0 g : Nat} (h : Below B0 w0 w) (hB : B0 ≤ g) (o : Nat) (l : ByteArray) (ui uk : Value) : Below B0 w0 (put3 w g o l ui uk) := by
  unfold put3
  exact ((h.setCell (p := ⟨g, o, none⟩) hB _).setCell (p := ⟨g, o + 1, none⟩) hB _).setCell (p := ⟨g, o + 2, none⟩) hB _
theorem put3_other {w : World} {g o t : Nat} {l : ByteArray} {ui uk : Value} (h : t < o ∨ o + 3 ≤ t) : (put3 w g o l ui uk).cell? ⟨g, t, none⟩ = w.cell? ⟨g, t, none⟩ := by
  unfold put3
  rw [nput_ne (by omega), nput_ne (by omega), nput_ne (by omega)]
theorem put3_at {w : World} {g o : Nat} {l : ByteArray} {ui uk : Value} (h : ∀ f, f < 3 → ∃ u, w.cell? ⟨g, o + f, none⟩ = some u) : (put3 w g o l ui uk).cell? ⟨g, o, none⟩ = some (.string l) ∧ (put3 w g o l ui uk).cell? ⟨g, o + 1, none⟩ = some ui ∧ (put3 w g o l ui uk).cell? ⟨g, o + 2, none⟩ = some uk := by
  obtain ⟨u0, k0⟩ := h 0 (by omega)
  obtain ⟨u1, k1⟩ := h 1 (by omega)
  obtain ⟨u2, k2⟩ := h 2 (by omega)
  unfold put3
  refine ⟨?_, ?_, ?_⟩
  · rw [nput_ne (by omega), nput_ne (by omega)]
    exact nput_eq (old := u0) (by exact k0)
  · rw [nput_ne (by omega)]
    exact nput_eq (old := u1) (by rw [nput_ne (by omega)]; exact k1)
  · exact nput_eq (old := u2) (by rw [nput_ne (by omega), nput_ne (by omega)]; exact k2)
theorem put3_some {w : World} {g o t : Nat} {l : ByteArray} {ui uk : Value} (h : ∀ f, f < 3 → ∃ u, w.cell? ⟨g, o + f, none⟩ = some u) (ht : ∃ u, w.cell? ⟨g, t, none⟩ = some u) : ∃ u, (put3 w g o l ui uk).cell? ⟨g, t, none⟩ = some u := by
  by_cases hlt : t < o ∨ o + 3 ≤ t
  · rw [put3_other hlt]
    exact ht
  · obtain ⟨c0, c1, c2⟩ := put3_at (l := l) (ui := ui) (uk := uk) h
    rcases (show t = o ∨ t = o + 1 ∨ t = o + 2 by omega) with rfl | rfl | rfl
    · exact ⟨_, c0⟩
    · exact ⟨_, c1⟩
    · exact ⟨_, c2⟩
def CopyK (w : World) (n : Nat) (ks : List Tr) (i : Value) (wr : World) : Prop :=
  ∃ j : Nat, j ≤ ks.length ∧ i = .int .i64 j ∧ (∀ t, t < ks.length * 3 → wr.frozen? ⟨w.heap.size, t, none⟩ = false) ∧ (∀ t, t < ks.length * 3 → ∃ u, wr.cell? ⟨w.heap.size, t, none⟩ = some u) ∧ (∀ t (ht : t < ks.length), t < j → wr.cell? ⟨w.heap.size, t * 3, none⟩ = some (.string ks[t].l) ∧ ∃ ui uk, wr.cell? ⟨w.heap.size, t * 3 + 1, none⟩ = some ui ∧ wr.cell? ⟨w.heap.size, t * 3 + 2, none⟩ = some uk ∧ NodeIn wr (w.heap.size + 1) wr.heap.size true n ks[t] ui uk) ∧ Below w.heap.size w wr ∧ w.heap.size < wr.heap.size
set_option maxHeartbeats 2000000 in
set_option maxRecDepth 100000 in
theorem toKids_any (n A B : Nat) (z : Bool)
    (H : ∀ (t : Tr) (vi vk : Value) (w : World), t.l.size ≤ maxLen → wtT n t ≤ 1048576 → B ≤ w.heap.size → NodeIn w A B z n t vi vk → Calls Tryd.prog 11 #[.agg #[.string t.l, vi, vk]] w fun e w' => ∃ ui uk, e = .returned (.agg #[.string t.l, ui, uk]) ∧ NodeIn w' w.heap.size w'.heap.size true n t ui uk ∧ Below w.heap.size w w')
    (v : Value) (ks : List Tr) (w : World) (hl : ks.length + wtK n ks ≤ 1048576) (hB : B ≤ w.heap.size) (hv : KidsIn w A B z n v ks) : Calls Tryd.prog 41 #[v] w fun e w' => ∃ u, e = .returned u ∧ KidsIn w' w.heap.size w'.heap.size true n u ks ∧ Below w.heap.size w w' := by
  obtain ⟨a, cap, rfl, hle, hcm, hx⟩ := hv
  have HX := Lib.hid hx
  have HH := Lib.hid H
  clear hx H
  have hmk := make_nodes ks.length (by omega)
  go_enter Tryd.func41, Tryd.ntmps41
  go_wp2
  clear hmk
  go_loopw [4] (fun i wr => CopyK w n ks i wr) (fun i _ => ks.length - (intOf i).toNat)
  case atStart =>
    exact ⟨0, Nat.zero_le _, rfl, fun t _ => mads_free w _ _ _ t, fun t ht => mads_cell w _ _ _ t ht, fun t _ ht => by omega, (Below.refl _ _).alloc (Nat.le_refl _) _, by simp⟩
  case round =>
    obtain ⟨j, hj, rfl, hf, hc, hm, hb, hz⟩ := hrel
    have HF := Lib.hid hf
    have HM := Lib.hid hm
    have HC := Lib.hid hc
    have HB := Lib.hid hb
    clear hf hm hc hb
    by_cases hlt : j < ks.length
    · obtain ⟨g, off, rfl, _, hgB, hcell⟩ := HX.out (by omega)
      obtain ⟨q, hq⟩ : ∃ q : Tr, ks[j] = q := ⟨_, rfl⟩
      obtain ⟨m1, _, c0, vi, vk, c1, c2, hN⟩ := hcell j hlt
      have hwq : wtT n ks[j] ≤ wtK n ks := kid_light (List.getElem_mem hlt)
      rw [hq] at m1 c0 hN hwq
      have c0 := (HB.out.cell (p := ⟨g, off + j * 3, none⟩) (by show g < _; omega)).trans c0
      have c1 := (HB.out.cell (p := ⟨g, off + j * 3 + 1, none⟩) (by show g < _; omega)).trans c1
      have c2 := (HB.out.cell (p := ⟨g, off + j * 3 + 2, none⟩) (by show g < _; omega)).trans c2
      have HN := Lib.hid (hN.below HB.out hB)
      have HQ := Lib.hid hq
      have hki : (j : Int) < ks.length := by omega
      have hBr := Nat.le_trans hB HB.out.size
      clear hq hcell hN
      go_wp2_with fail
      refine (HH.out q vi vk _ m1 (by omega) hBr HN.out).mono ?_
      rintro e w1 ⟨ui0, uk0, rfl, hN1, hb1⟩
      obtain ⟨⟨ai, li, ci, hui⟩, ak, lk, ck, huk⟩ := hN1.forms
      subst hui huk
      have HB1 := Lib.hid (HB.out.trans (hb1.mono (Nat.le_of_lt hz)))
      have HF1 : Hid (∀ t, t < ks.length * 3 → w1.frozen? ⟨w.heap.size, t, none⟩ = false) := Lib.hid fun t ht => by rw [World.frozen?, hb1.block _ hz]; exact HF.out t ht
      have HC1 : Hid (∀ t, t < ks.length * 3 → ∃ u, w1.cell? ⟨w.heap.size, t, none⟩ = some u) := Lib.hid fun t ht => by
        obtain ⟨u, hu⟩ := HC.out t ht
        exact ⟨u, (hb1.cell (p := ⟨w.heap.size, t, none⟩) hz).trans hu⟩
      have HM1 : Hid (∀ t (ht : t < ks.length), t < j → w1.cell? ⟨w.heap.size, t * 3, none⟩ = some (.string ks[t].l) ∧ ∃ ui uk, w1.cell? ⟨w.heap.size, t * 3 + 1, none⟩ = some ui ∧ w1.cell? ⟨w.heap.size, t * 3 + 2, none⟩ = some uk ∧ NodeIn w1 (w.heap.size + 1) w1.heap.size true n ks[t] ui uk) := Lib.hid fun t ht htj => by
        obtain ⟨k0, ui, uk, k1, k2, k3⟩ := HM.out t ht htj
        exact ⟨(hb1.cell (p := ⟨w.heap.size, t * 3, none⟩) hz).trans k0, ui, uk, (hb1.cell (p := ⟨w.heap.size, t * 3 + 1, none⟩) hz).trans k1, (hb1.cell (p := ⟨w.heap.size, t * 3 + 2, none⟩) hz).trans k2, (k3.below hb1 (Nat.le_refl _)).more (Nat.le_refl _) hb1.size⟩
      have HN1 := Lib.hid (hN1.more (show w.heap.size + 1 ≤ wr.heap.size by omega) (Nat.le_refl _))
      have hz1 := Nat.lt_of_lt_of_le hz hb1.size
      clear hb1 hN1 c0 c1 c2
      obtain ⟨o0, k0⟩ := HC1.out (j * 3) (by omega)
      have f0 := HF1.out (j * 3) (by omega)
      obtain ⟨o1, k1⟩ := HC1.out (j * 3 + 1) (by omega)
      have f1 := HF1.out (j * 3 + 1) (by omega)
      obtain ⟨o2, k2⟩ := HC1.out (j * 3 + 2) (by omega)
      have f2 := HF1.out (j * 3 + 2) (by omega)
      go_wp2_with fail
      go_roundw
      case rel =>
        have hall : ∀ f, f < 3 → ∃ u, w1.cell? ⟨w.heap.size, j * 3 + f, none⟩ = some u := fun f hf => HC1.out (j * 3 + f) (by omega)
        show CopyK w n ks (.int .i64 ((j : Int) + 1)) (put3 w1 w.heap.size (j * 3) q.l (.slice ai li ci) (.slice ak lk ck))
        have keepN : ∀ {t : Tr} {a b : Value}, NodeIn w1 (w.heap.size + 1) w1.heap.size true n t a b → NodeIn (put3 w1 w.heap.size (j * 3) q.l (.slice ai li ci) (.slice ak lk ck)) (w.heap.size + 1) (put3 w1 w.heap.size (j * 3) q.l (.slice ai li ci) (.slice ak lk ck)).heap.size true n t a b := fun h => by
          rw [put3_size]
          exact h.keep fun k hk _ => put3_block _ _ _ _ _ _ k (by omega)
        refine ⟨j + 1, by omega, by go_num, fun t ht => by rw [put3_free]; exact HF1.out t ht, fun t ht => put3_some hall (HC1.out t ht), fun t ht htj => ?_, put3_below HB1.out (Nat.le_refl _) _ _ _ _, by rw [put3_size]; exact hz1⟩
        by_cases e : t = j
        · subst e
          obtain ⟨p0, p1, p2⟩ := put3_at (l := q.l) (ui := .slice ai li ci) (uk := .slice ak lk ck) hall
          rw [HQ.out]
          exact ⟨p0, _, _, p1, p2, keepN HN1.out⟩
        · obtain ⟨k0, xi, xk, k1, k2, k3⟩ := HM1.out t ht (by omega)
          exact ⟨(put3_other (by omega)).trans k0, xi, xk, (put3_other (by omega)).trans k1, (put3_other (by omega)).trans k2, keepN k3⟩
      case measure => simp [intOf]; omega
    · obtain rfl : j = ks.length := by omega
      go_wp2
      go_ret
      refine ⟨_, rfl, ⟨_, _, rfl, Nat.le_refl _, by unfold maxLen; omega, fun _ => ⟨_, 0, rfl, Nat.le_refl _, hz, fun t ht => ?_⟩⟩, HB.out⟩
      obtain ⟨k0, xi, xk, k1, k2, k3⟩ := HM.out t ht ht
      rw [Nat.zero_add]
      have hml : ks[t].l.size ≤ maxLen := by
        obtain ⟨g, off, _, _, _, hcell⟩ := HX.out (by omega)
        exact (hcell t ht).1
      exact ⟨hml, fun _ f hf => HF.out _ (by omega), k0, xi, xk, k1, k2, k3.more (by omega) (Nat.le_refl _)⟩
theorem nheap_put {w : World} {b : Nat} {cs : Array Value} {t : TypeId} {fr : Nat × Nat} (h : w.heap[b]? = some (.cells cs t fr)) (i : Nat) (u : Value) : (w.setCell ⟨b, i, none⟩ u).heap[b]? = some (.cells (cs.setIfInBounds i u) t fr) := by
  simp only [World.setCell, Array.getElem?_modify, if_true, h]
  rfl
theorem three_blk (w : World) (o1 o2 o3 : Obj) : (((w.alloc o1).alloc o2).alloc o3).heap[w.heap.size]? = some o1 ∧ (((w.alloc o1).alloc o2).alloc o3).heap[w.heap.size + 1]? = some o2 ∧ (((w.alloc o1).alloc o2).alloc o3).heap[w.heap.size + 2]? = some o3 := by
  have h1 : (w.alloc o1).heap.size = w.heap.size + 1 := by simp
  have h2 : ((w.alloc o1).alloc o2).heap.size = w.heap.size + 2 := by simp
  refine ⟨?_, ?_, ?_⟩
  · rw [Below.heap_alloc _ _ _ (by omega), Below.heap_alloc _ _ _ (by omega)]
    exact heap_alloc_new _ _
  · rw [Below.heap_alloc _ _ _ (by omega), ← h1]
    exact heap_alloc_new _ _
  · rw [← h2]
    exact heap_alloc_new _ _
set_option maxHeartbeats 2000000 in
set_option maxRecDepth 100000 in
theorem toNode_any (A B : Nat) (z : Bool) : ∀ (n : Nat) (t : Tr) (vi vk : Value) (w : World), t.l.size ≤ maxLen → wtT n t ≤ 1048576 → B ≤ w.heap.size → NodeIn w A B z n t vi vk → Calls Tryd.prog 11 #[.agg #[.string t.l, vi, vk]] w fun e w' => ∃ ui uk, e = .returned (.agg #[.string t.l, ui, uk]) ∧ NodeIn w' w.heap.size w'.heap.size true n t ui uk ∧ Below w.heap.size w w' := by
  intro n
  induction n with
  | zero => intro t vi vk w _ _ _ h; exact h.elim
  | succ n ih =>
    intro t vi vk w hm hwt hB h
    have hw : wtT (n + 1) t = t.l.size + t.ids.length + (t.ks.length + wtK n t.ks) := rfl
    rw [hw] at hwt
    obtain ⟨hi, hk⟩ := h.parts
    obtain ⟨l, hl⟩ : ∃ l, t.l = l := ⟨_, rfl⟩
    rw [hl] at hwt ⊢
    have HI := Lib.hid hi
    have HK := Lib.hid hk
    have IH := Lib.hid ih
    clear hi hk ih h hw hm
    obtain ⟨b0, b1, b2⟩ := three_blk w (.cells #[.string l, vi, vk] 25) (.cells #[.string ⟨#[]⟩, .slice none 0 0, .slice none 0 0] 30) (.cells #[.string l, .slice none 0 0, .slice none 0 0] 30)
    have HW : Hid ((((w.alloc (.cells #[.string l, vi, vk] 25)).alloc (.cells #[.string ⟨#[]⟩, .slice none 0 0, .slice none 0 0] 30)).alloc (.cells #[.string l, .slice none 0 0, .slice none 0 0] 30)).heap.size = w.heap.size + 3) := Lib.hid (by simp)
    have BA : Hid (Below w.heap.size w (((w.alloc (.cells #[.string l, vi, vk] 25)).alloc (.cells #[.string ⟨#[]⟩, .slice none 0 0, .slice none 0 0] 30)).alloc (.cells #[.string l, .slice none 0 0, .slice none 0 0] 30))) := Lib.hid ((((Below.refl _ _).alloc (Nat.le_refl _) _).alloc (by simp) _).alloc (by simp; omega) _)
    have H0 := Lib.hid b0
    have H1 := Lib.hid b1
    have H2 := Lib.hid b2
    obtain ⟨c0, c1, c2⟩ := node_cells b0
    clear b0 b1 b2
    go_enter Tryd.func11, Tryd.ntmps11
    go_wp2_with fail
    refine (toInts_any vi t.ids A B z _ (by omega) (by rw [HW.out]; omega) (HI.out.below BA.out hB)).mono ?_
    rintro e w1 ⟨u, rfl, hI, hb⟩
    rw [HW.out] at hI hb
    obtain ⟨a1, cp1, hu, _⟩ := id hI
    obtain ⟨li, hli⟩ : ∃ n, t.ids.length = n := ⟨_, rfl⟩
    rw [hli] at hu
    subst hu
    have B1 := Lib.hid (BA.out.trans (hb.mono (by omega)))
    have K0 := Lib.hid ((hb.block w.heap.size (by omega)).trans H0.out)
    have K1 := Lib.hid ((hb.block (w.heap.size + 1) (by omega)).trans H1.out)
    have K2 := Lib.hid ((hb.block (w.heap.size + 2) (by omega)).trans H2.out)
    have HIA := Lib.hid hI
    have hs1 : w.heap.size + 3 ≤ w1.heap.size := by have := hb.size; rw [HW.out] at this; exact this
    clear hb hI c0 c1 c2 hli
    obtain ⟨c0, c1, c2⟩ := node_cells K0.out
    obtain ⟨d0, d1, d2⟩ := node_cells K2.out
    have f1 := froz0 K2.out 1
    have BS : Hid (Below w.heap.size w (w1.setCell ⟨w.heap.size + 1 + 1, 1, none⟩ (.slice a1 li cp1))) := Lib.hid (B1.out.setCell (p := ⟨w.heap.size + 1 + 1, 1, none⟩) (by show w.heap.size ≤ w.heap.size + 1 + 1; omega) _)
    have HS : Hid ((w1.setCell ⟨w.heap.size + 1 + 1, 1, none⟩ (.slice a1 li cp1)).heap.size = w1.heap.size) := Lib.hid (by simp [World.setCell])
    have S1 : Hid ((w1.setCell ⟨w.heap.size + 1 + 1, 1, none⟩ (.slice a1 li cp1)).heap[w.heap.size + 1]? = some (.cells #[.string ⟨#[]⟩, .slice none 0 0, .slice none 0 0] 30 (0, 0))) := Lib.hid ((Below.heap_setCell _ _ _ _ (by show w.heap.size + 1 ≠ w.heap.size + 1 + 1; omega)).trans K1.out)
    have S2 : Hid ((w1.setCell ⟨w.heap.size + 1 + 1, 1, none⟩ (.slice a1 li cp1)).heap[w.heap.size + 2]? = some (.cells #[.string l, .slice a1 li cp1, .slice none 0 0] 30 (0, 0))) := Lib.hid (nheap_put K2.out 1 (.slice a1 li cp1))
    have HIS : Hid (IntsIn (w1.setCell ⟨w.heap.size + 1 + 1, 1, none⟩ (.slice a1 li cp1)) (w.heap.size + 3) w1.heap.size true (.slice a1 li cp1) t.ids) := Lib.hid (HIA.out.keep fun k hk _ => Below.heap_setCell _ _ _ _ (by show k ≠ w.heap.size + 1 + 1; omega))
    go_wp2_with fail
    refine (toKids_any n A B z IH.out vk t.ks _ (by omega) (Nat.le_trans hB BS.out.size) (HK.out.below BS.out hB)).mono ?_
    rintro e w2 ⟨u, rfl, hK, hb⟩
    obtain ⟨a2, cp2, hu, _⟩ := id hK
    obtain ⟨lk, hlk⟩ : ∃ n, t.ks.length = n := ⟨_, rfl⟩
    rw [hlk] at hu
    subst hu
    have B2 := Lib.hid (BS.out.trans (hb.mono BS.out.size))
    have M1 := Lib.hid ((hb.block (w.heap.size + 1) (by rw [HS.out]; omega)).trans S1.out)
    have M2 := Lib.hid ((hb.block (w.heap.size + 2) (by rw [HS.out]; omega)).trans S2.out)
    have HI2 := Lib.hid ((HIS.out.below hb (by rw [HS.out]; exact Nat.le_refl _)).more (Nat.le_refl _) (show w1.heap.size ≤ w2.heap.size by have := hb.size; rw [HS.out] at this; exact this))
    have HK2 := Lib.hid (hK.more (show w.heap.size + 3 ≤ _ by rw [HS.out]; exact hs1) (Nat.le_refl _))
    have hs2 : w.heap.size + 3 ≤ w2.heap.size := by have := hb.size; rw [HS.out] at this; omega
    clear hb hK c0 c1 c2 d0 d1 d2 f1 hlk hwt
    obtain ⟨d0, d1, d2⟩ := node_cells M2.out
    obtain ⟨z0, z1, z2⟩ := node_cells M1.out
    have f2 := froz0 M2.out 2
    have g0 := froz0 M1.out 0
    have g1 := froz0 M1.out 1
    have g2 := froz0 M1.out 2
    go_wp2_with fail
    have hk : ∀ k, w.heap.size + 3 ≤ k → k < w2.heap.size → ((((w2.setCell ⟨w.heap.size + 1 + 1, 2, none⟩ (.slice a2 lk cp2)).setCell ⟨w.heap.size + 1, 0, none⟩ (.string l)).setCell ⟨w.heap.size + 1, 1, none⟩ (.slice a1 li cp1)).setCell ⟨w.heap.size + 1, 2, none⟩ (.slice a2 lk cp2)).heap[k]? = w2.heap[k]? := fun k hk _ => by
      rw [Below.heap_setCell _ _ _ _ (by show k ≠ w.heap.size + 1; omega), Below.heap_setCell _ _ _ _ (by show k ≠ w.heap.size + 1; omega), Below.heap_setCell _ _ _ _ (by show k ≠ w.heap.size + 1; omega), Below.heap_setCell _ _ _ _ (by show k ≠ w.heap.size + 1 + 1; omega)]
    have hz : ((((w2.setCell ⟨w.heap.size + 1 + 1, 2, none⟩ (.slice a2 lk cp2)).setCell ⟨w.heap.size + 1, 0, none⟩ (.string l)).setCell ⟨w.heap.size + 1, 1, none⟩ (.slice a1 li cp1)).setCell ⟨w.heap.size + 1, 2, none⟩ (.slice a2 lk cp2)).heap.size = w2.heap.size := by simp [World.setCell]
    have n1 : (w2.setCell ⟨w.heap.size + 1 + 1, 2, none⟩ (.slice a2 lk cp2)).heap[w.heap.size + 1]? = _ := (Below.heap_setCell _ _ _ _ (by show w.heap.size + 1 ≠ w.heap.size + 1 + 1; omega)).trans M1.out
    have n2 := nheap_put (nheap_put (nheap_put n1 0 (.string l)) 1 (.slice a1 li cp1)) 2 (.slice a2 lk cp2)
    obtain ⟨k0, k1, k2⟩ := node_cells n2
    refine bodyPost_ret (v := .agg #[.string l, .slice a1 li cp1, .slice a2 lk cp2]) (by simp [results, Tryd.results11, go_sem, k0, k1, k2]) rfl ⟨_, _, rfl, ?_, ?_⟩
    · rw [hz]
      exact NodeIn.of ((HI2.out.keep hk).more (by omega) (Nat.le_refl _)) ((HK2.out.keep hk).more (by omega) (Nat.le_refl _))
    · exact (((B2.out.setCell (p := ⟨w.heap.size + 1 + 1, 2, none⟩) (by show w.heap.size ≤ w.heap.size + 1 + 1; omega) _).setCell (p := ⟨w.heap.size + 1, 0, none⟩) (by show w.heap.size ≤ w.heap.size + 1; omega) _).setCell (p := ⟨w.heap.size + 1, 1, none⟩) (by show w.heap.size ≤ w.heap.size + 1; omega) _).setCell (p := ⟨w.heap.size + 1, 2, none⟩) (by show w.heap.size ≤ w.heap.size + 1; omega) _
end Go.Proofs.YtcaabnnkjnleeaaDoor
