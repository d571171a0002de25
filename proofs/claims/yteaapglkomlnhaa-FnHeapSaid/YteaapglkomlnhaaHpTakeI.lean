/- A slot taken, in the program. No condition of its own. -/
import Derived.Test.YteaapglkomlnhaaHpClone
namespace Go.Proofs.Yteaapglkomlnhaa
open Go.ChangeShapes Go.WideShapes Go.ChangeAt Go.WideMaps Go.WideElems Go.RowKit

/-- Every other block than two stands as it stood. -/
structure But2 (g p : Nat) (w w' : World) : Prop where
  b0 : Below 0 w w'
  block : ∀ k, k < w.heap.size → k ≠ g → k ≠ p → w'.heap[k]? = w.heap[k]?
theorem But2.refl (g p : Nat) (w : World) : But2 g p w w := ⟨Below.refl _ _, fun _ _ _ _ => rfl⟩
theorem But2.trans {g p : Nat} {a b c : World} (h : But2 g p a b) (k : But2 g p b c) : But2 g p a c :=
  ⟨h.b0.trans k.b0, fun j h1 h2 h3 => (k.block j (Nat.lt_of_lt_of_le h1 h.b0.size) h2 h3).trans (h.block j h1 h2 h3)⟩
theorem But2.of_b {g p : Nat} {w w' : World} (h : ButB g w w') : But2 g p w w' := ⟨h.b0, fun k hk hg _ => h.block k hk hg⟩
theorem But2.of_below {g p : Nat} {w w' : World} (h : Below w.heap.size w w') : But2 g p w w' := ⟨h.mono (Nat.zero_le _), fun k hk _ _ => h.block k hk⟩
theorem But2.drew {g p : Nat} {a w : World} (h : But2 g p a w) : But2 g p a w.drew := ⟨h.b0.drew, h.block⟩
theorem But2.alloc {g p : Nat} {a w : World} (h : But2 g p a w) (o : Obj) : But2 g p a (w.alloc o) := h.trans (But2.of_below ((Below.refl _ _).alloc (Nat.le_refl _) _))
theorem But2.box {g p : Nat} {a w : World} (h : But2 g p a w) (v : Value) : But2 g p a (w.setCell ⟨p, 0, none⟩ v) :=
  ⟨h.b0.setCell (p := ⟨p, 0, none⟩) (Nat.zero_le _) v, fun k hk hg hp => by
    rw [Below.heap_setCell _ _ _ _ hp]
    exact h.block k hk hg hp⟩
theorem But2.put {g p : Nat} {a w : World} (h : But2 g p a w) (o : Nat) (q : Sl) : But2 g p a (putSl w g o q) := h.trans (But2.of_b ((ButB.refl g w).put o q))
theorem But2.below {g p B : Nat} {w w' : World} (h : But2 g p w w') (hg : B ≤ g) (hp : B ≤ p) (hz : B ≤ w.heap.size) : Below B w w' :=
  ⟨h.b0.os, h.b0.tape, h.b0.output, h.b0.size, fun k hk => h.block k (Nat.lt_of_lt_of_le hk hz) (by omega) (by omega)⟩
theorem RowSl.box {w : World} {g p : Nat} {qs : List Sl} (h : RowSl w g qs) (hp : g ≠ p) (v : Value) : RowSl (w.setCell ⟨p, 0, none⟩ v) g qs := h.same (by simp [World.setCell]) (Below.heap_setCell _ _ _ _ hp)
/-- A box that holds a value and may be stored into. -/
def BoxA (w : World) (p : Nat) (v : Value) : Prop := p < w.heap.size ∧ w.cell? ⟨p, 0, none⟩ = some v ∧ w.frozen? ⟨p, 0, none⟩ = false
theorem BoxA.same {w w' : World} {p : Nat} {v : Value} (h : BoxA w p v) (hz : w.heap.size ≤ w'.heap.size) (hb : w'.heap[p]? = w.heap[p]?) : BoxA w' p v :=
  ⟨Nat.lt_of_lt_of_le h.1 hz, by rw [World.cell?, hb]; exact h.2.1, by rw [World.frozen?, hb]; exact h.2.2⟩
theorem BoxA.below {w w' : World} {p : Nat} {v : Value} (h : BoxA w p v) (hb : Below w.heap.size w w') : BoxA w' p v := h.same hb.size (hb.block p h.1)
theorem BoxA.but {w w' : World} {g p : Nat} {v : Value} (h : BoxA w p v) (hb : ButB g w w') (hg : p ≠ g) : BoxA w' p v := h.same hb.b0.size (hb.block p h.1 hg)
theorem BoxA.set {w : World} {p : Nat} {v : Value} (h : BoxA w p v) (u : Value) : BoxA (w.setCell ⟨p, 0, none⟩ u) p u :=
  ⟨by simp [World.setCell]; exact h.1, cell_put_eq h.2.1, by rw [World.frozen?_setCell]; exact h.2.2⟩
theorem BoxA.put {w : World} {g p : Nat} {v : Value} (h : BoxA w p v) (hg : p ≠ g) (o : Nat) (q : Sl) : BoxA (putSl w g o q) p v := h.but ((ButB.refl g w).put o q) hg
theorem BoxA.new (w : World) (t : TypeId) (v : Value) : BoxA (w.alloc (.cells #[v] t)) w.heap.size v := by
  refine ⟨by simp, ?_, frz0 (heap_alloc_new w _) 0⟩
  rw [World.cell?_alloc_at _ _ _ _ rfl]
  rfl
theorem BoxA.alloc {w : World} {p : Nat} {v : Value} (h : BoxA w p v) (o : Obj) : BoxA (w.alloc o) p v := h.below ((Below.refl _ _).alloc (Nat.le_refl _) _)
/-- A block of two cells that holds a slot. -/
def BlkSl (w : World) (p : Nat) (q : Sl) : Prop := w.heap[p]? = some (.cells #[.int .i64 q.k, .int .i64 q.i] 33 (0, 0))
theorem BlkSl.cells {w : World} {p : Nat} {q : Sl} (h : BlkSl w p q) : w.cell? ⟨p, 0, none⟩ = some (.int .i64 q.k) ∧ w.cell? ⟨p, 1, none⟩ = some (.int .i64 q.i) ∧ w.frozen? ⟨p, 0, none⟩ = false ∧ w.frozen? ⟨p, 1, none⟩ = false := by
  have h' : w.heap[p]? = some (.cells #[.int .i64 q.k, .int .i64 q.i] 33 (0, 0)) := h
  exact ⟨by simp [World.cell?, h'], by simp [World.cell?, h'], frz0 h' 0, frz0 h' 1⟩
theorem BlkSl.lt {w : World} {p : Nat} {q : Sl} (h : BlkSl w p q) : p < w.heap.size := (Array.getElem?_eq_some_iff.1 (show w.heap[p]? = _ from h)).1
theorem BlkSl.below {w w' : World} {p : Nat} {q : Sl} (h : BlkSl w p q) (hb : Below w.heap.size w w') : BlkSl w' p q := (hb.block p h.lt).trans h
theorem BlkSl.but {w w' : World} {g p : Nat} {q : Sl} (h : BlkSl w p q) (hb : ButB g w w') (hg : p ≠ g) : BlkSl w' p q := (hb.block p h.lt hg).trans h
theorem BlkSl.alloc {w : World} {p : Nat} {q : Sl} (h : BlkSl w p q) (o : Obj) : BlkSl (w.alloc o) p q := (Below.heap_alloc w o p h.lt).trans h
theorem BlkSl.new (w : World) (q : Sl) (p : Nat) (hp : w.heap.size = p) : BlkSl (w.alloc (.cells #[.int .i64 q.k, .int .i64 q.i] 33)) p q := by
  subst hp
  exact heap_alloc_new w _
theorem BlkSl.set {w : World} {p : Nat} {q : Sl} (h : BlkSl w p q) (r : Sl) : BlkSl (putSl w p 0 r) p r := by
  have h' : w.heap[p]? = some (.cells #[.int .i64 q.k, .int .i64 q.i] 33 (0, 0)) := h
  show (putSl w p 0 r).heap[p]? = _
  have hl := h.lt
  simp [putSl, World.setCell, h', Array.getElem?_modify]
theorem But2.far {g p r : Nat} {a w : World} (h : But2 g p a w) (hr : a.heap.size ≤ r) (o : Nat) (q : Sl) : But2 g p a (putSl w r o q) :=
  ⟨putSl_below h.b0 (Nat.zero_le _) o q, fun k hk hg hp => by
    unfold putSl
    rw [Below.heap_setCell _ _ _ _ (by show k ≠ r; omega), Below.heap_setCell _ _ _ _ (by show k ≠ r; omega)]
    exact h.block k hk hg hp⟩
theorem sc_size (w : World) (a : Addr) (v : Value) : (w.setCell a v).heap.size = w.heap.size := by simp [World.setCell]
theorem wp_name {P : Program} {c : Code} {Q : Exit → Act → World → Prop} {a : Act} {W : World} (h : ∀ wx, wx = W → c.wp P Q a wx) : c.wp P Q a W := h W rfl
set_option maxHeartbeats 4000000 in
set_option maxRecDepth 100000 in
theorem implTake_mid (g p cap i m : Nat) (qs : List Sl) (w : World) (hn : qs.length = m + 1) (hl : m + 1 ≤ 1048576) (hi : i < m) (hr : RowSl w g qs) (hp : BoxA w p (.slice (some ⟨g, 0, none⟩) (m + 1) cap)) (hgp : g ≠ p) (hcap : m + 1 ≤ cap) : Calls Try.prog 49 #[.pointer (some ⟨p, 0, none⟩), .int .i64 i] w fun e w' => e = .returned (.agg #[.int .i64 qs[i]!.k, .int .i64 qs[i]!.i]) ∧ RowSl w' g (takeL qs i) ∧ BoxA w' p (.slice (some ⟨g, 0, none⟩) m cap) ∧ But2 g p w w' := by
  obtain ⟨x, hx⟩ : ∃ x, qs[i]! = x := ⟨_, rfl⟩
  obtain ⟨y, hy⟩ : ∃ y, qs[m]! = y := ⟨_, rfl⟩
  rw [hx]
  obtain ⟨c0, c1, f0, f1⟩ := hr.cells (t := i) (by omega)
  obtain ⟨d0, d1, _, _⟩ := hr.cells (t := m) (by omega)
  rw [hx] at c0 c1
  rw [hy] at d0 d1
  obtain ⟨b0, b1, b2⟩ := id hp
  have HP := Lib.hid hp
  have HR := Lib.hid hr
  have HN := Lib.hid hn
  have HY := Lib.hid hy
  have hgl := hr.1
  have hpg : p ≠ g := fun h => hgp h.symm
  have sm : (m : Int) + 1 - 1 = (m : Int) := by omega
  have s1 : (i : Int) < (m : Int) + 1 := by omega
  have s2 : (m : Int) < (m : Int) + 1 := by omega
  have s3 : (i : Int) < (m : Int) := by omega
  have gw : IntKind.i64.wrap (m : Int) = (m : Int) := by rw [IntKind.wrap_i64]; omega
  have hmc : m ≤ cap := by omega
  have hmc2 : (m : Int) ≤ cap := by omega
  clear hr hn hx hy hp
  go_enter Try.func49, Try.ntmps49
  go_wp2_with fail
  go_region
  all_goals go_wp2_with fail
  refine wp_name ?_
  intro wx hwx
  have hR6 : RowSl wx g ((qs.set i y).take m) := by
    rw [hwx]
    exact ((((((HR.out.put (j := i) (q := y) (by have := HN.out; omega)).box hgp _).alloc _).alloc _).drew).take)
  have hP6 : BoxA wx p (.slice (some ⟨g, 0, none⟩) m cap) := by
    rw [hwx]
    exact ((((HP.out.put hpg (i * 2) y).set _).alloc _).alloc _)
  have hB6 : But2 g p w wx := by
    rw [hwx]
    exact (((((But2.refl g p w).put (i * 2) y).box _).alloc _).alloc _).drew
  have hK5 : BlkSl wx w.heap.size ⟨0, 0⟩ := by
    rw [hwx]
    exact ((BlkSl.new ((putSl w g (i * 2) y).setCell ⟨p, 0, none⟩ (.slice (some ⟨g, 0, none⟩) m cap)) ⟨0, 0⟩ w.heap.size (by rw [sc_size, putSl_size])).alloc (.cells #[.int .i64 x.k, .int .i64 x.i] 33))
  have hK6 : BlkSl wx (w.heap.size + 1) x := by
    rw [hwx]
    exact BlkSl.new (((putSl w g (i * 2) y).setCell ⟨p, 0, none⟩ (.slice (some ⟨g, 0, none⟩) m cap)).alloc (.cells #[.int .i64 0, .int .i64 0] 33)) x (w.heap.size + 1) (by rw [World.size_alloc, sc_size, putSl_size])
  clear hwx c0 c1 f0 f1 d0 d1 b1 b2
  obtain ⟨rs, hrs⟩ : ∃ rs, (qs.set i y).take m = rs := ⟨_, rfl⟩
  obtain ⟨us, hus⟩ : ∃ us, (upL rs i).1 = us := ⟨_, rfl⟩
  obtain ⟨uj, huj⟩ : ∃ uj, (upL rs i).2 = uj := ⟨_, rfl⟩
  have hrl : rs.length = m := by
    rw [← hrs, List.length_take, List.length_set]
    have := HN.out
    omega
  have hul : us.length = m := by rw [← hus, (upL_both i rs).1, hrl]
  have hujl : uj < m := by
    rw [← huj]
    exact Nat.lt_of_le_of_lt (upL_both i rs).2 hi
  have HE : Hid (takeL qs i = downL us uj) := Lib.hid (by
    rw [takeL_mid HN.out (by omega), HY.out, ← hus, ← huj, ← hrs, List.take_set])
  rw [hrs] at hR6
  have HUP : Hid (∀ W, RowSl W g rs → Calls Try.prog 66 #[.slice (some ⟨g, 0, none⟩) m cap, .int .i64 i] W fun e w' => e = .returned (.int .i64 (uj : Int)) ∧ RowSl w' g us ∧ ButB g W w') := Lib.hid fun W h => by
    have := implUp_any g cap i m rs W hrl (by omega) hi h
    rw [hus, huj] at this
    exact this
  have HDN : Hid (∀ W, RowSl W g us → Calls Try.prog 68 #[.slice (some ⟨g, 0, none⟩) m cap, .int .i64 (uj : Int)] W fun e w' => e = .returned (.tuple #[]) ∧ RowSl w' g (downL us uj) ∧ ButB g W w') := Lib.hid fun W h => implDown_any g cap uj m us W hul (by omega) hujl h
  have HR6 := Lib.hid hR6.drew
  have HP6 : Hid (BoxA wx.drew p (.slice (some ⟨g, 0, none⟩) m cap)) := Lib.hid hP6
  have HB6 := Lib.hid hB6.drew
  have HK5 : Hid (BlkSl wx.drew w.heap.size ⟨0, 0⟩) := Lib.hid hK5
  have HK6 : Hid (BlkSl wx.drew (w.heap.size + 1) x) := Lib.hid hK6
  have n5 : w.heap.size ≠ g := by omega
  have n6 : w.heap.size + 1 ≠ g := by omega
  obtain ⟨_, b1, b2⟩ := hP6
  clear hR6 hB6 hK5 hK6 hrs hus huj hrl hul hujl
  go_region_with (first
    | (go_at_call 66; refine (HUP.out _ HR6.out).mono ?_; rintro e w7 ⟨rfl, hr, hb⟩; have HR7 := Lib.hid hr; have hP7 := HP6.out.but hb hpg; have HP7 := Lib.hid hP7; have HK7 := Lib.hid (HK5.out.but hb n5); have HL7 := Lib.hid (HK6.out.but hb n6); have HB7 := Lib.hid (HB6.out.trans (But2.of_b (p := p) hb)); obtain ⟨_, b1, b2⟩ := hP7; clear hr hb)
    | (go_at_call 68; refine (HDN.out _ HR7.out).mono ?_; rintro e w8 ⟨rfl, hr, hb⟩; have HR8 := Lib.hid hr; have hP8 := HP7.out.but hb hpg; have HP8 := Lib.hid hP8; have HK8 := Lib.hid (HK7.out.but hb n5); have hL8 := HL7.out.but hb n6; have HB8 := Lib.hid (HB7.out.trans (But2.of_b (p := p) hb)); obtain ⟨l0, l1, _, _⟩ := hL8.cells; obtain ⟨k0, k1, k2, k3⟩ := HK8.out.cells; clear hr hb hL8))
  all_goals
    have hres := Lib.hid ((HK8.out.set x).cells)
    have HF : Hid (RowSl (putSl w8 w.heap.size 0 x) g (downL us uj) ∧ BoxA (putSl w8 w.heap.size 0 x) p (.slice (some ⟨g, 0, none⟩) m cap) ∧ But2 g p w (putSl w8 w.heap.size 0 x)) := Lib.hid ⟨HR8.out.but ((ButB.refl _ w8).put 0 x) (fun h => n5 h.symm), HP8.out.put (by have := b0; omega) 0 x, HB8.out.far (Nat.le_refl _) 0 x⟩
    go_wp2_with fail
    obtain ⟨q0, q1, _, _⟩ := hres.out
    have q0' : ((w8.setCell ⟨w.heap.size, 0, none⟩ (.int .i64 x.k)).setCell ⟨w.heap.size, 1, none⟩ (.int .i64 x.i)).cell? ⟨w.heap.size, 0, none⟩ = some (.int .i64 x.k) := q0
    have q1' : ((w8.setCell ⟨w.heap.size, 0, none⟩ (.int .i64 x.k)).setCell ⟨w.heap.size, 1, none⟩ (.int .i64 x.i)).cell? ⟨w.heap.size, 1, none⟩ = some (.int .i64 x.i) := q1
    refine bodyPost_ret (v := .agg #[.int .i64 x.k, .int .i64 x.i]) (by simp [results, Try.results49, go_sem, q0', q1']) rfl ?_
    rw [HE.out]
    exact ⟨rfl, HF.out⟩
set_option maxHeartbeats 4000000 in
set_option maxRecDepth 100000 in
theorem implTake_end (g p cap m : Nat) (qs : List Sl) (w : World) (hn : qs.length = m + 1) (hl : m + 1 ≤ 1048576) (hr : RowSl w g qs) (hp : BoxA w p (.slice (some ⟨g, 0, none⟩) (m + 1) cap)) (hgp : g ≠ p) (hcap : m + 1 ≤ cap) : Calls Try.prog 49 #[.pointer (some ⟨p, 0, none⟩), .int .i64 m] w fun e w' => e = .returned (.agg #[.int .i64 qs[m]!.k, .int .i64 qs[m]!.i]) ∧ RowSl w' g (takeL qs m) ∧ BoxA w' p (.slice (some ⟨g, 0, none⟩) m cap) ∧ But2 g p w w' := by
  obtain ⟨y, hy⟩ : ∃ y, qs[m]! = y := ⟨_, rfl⟩
  rw [hy]
  obtain ⟨d0, d1, f0, f1⟩ := hr.cells (t := m) (by omega)
  rw [hy] at d0 d1
  obtain ⟨b0, b1, b2⟩ := id hp
  have HP := Lib.hid hp
  have HR := Lib.hid hr
  have HN := Lib.hid hn
  have hgl := hr.1
  have hpg : p ≠ g := fun h => hgp h.symm
  have sm : (m : Int) + 1 - 1 = (m : Int) := by omega
  have s2 : (m : Int) < (m : Int) + 1 := by omega
  have s3 : ¬ (m : Int) < (m : Int) := by omega
  have gw : IntKind.i64.wrap (m : Int) = (m : Int) := by rw [IntKind.wrap_i64]; omega
  have hmc : m ≤ cap := by omega
  have hmc2 : (m : Int) ≤ cap := by omega
  have HE : Hid (takeL qs m = qs.take m) := Lib.hid (takeL_end hn rfl)
  have HT : Hid ((qs.set m y).take m = qs.take m) := Lib.hid (by rw [List.take_set, List.set_eq_of_length_le (by rw [List.length_take]; omega)])
  clear hr hn hy hp
  go_enter Try.func49, Try.ntmps49
  go_wp2_with fail
  go_region
  all_goals go_upto_region 7 with fail
  refine wp_name ?_
  intro wx hwx
  have hR6 : RowSl wx g (qs.take m) := by
    rw [hwx, ← HT.out]
    exact ((((((HR.out.put (j := m) (q := y) (by have := HN.out; omega)).box hgp _).alloc _).alloc _).drew).take)
  have hP6 : BoxA wx p (.slice (some ⟨g, 0, none⟩) m cap) := by
    rw [hwx]
    exact ((((HP.out.put hpg (m * 2) y).set _).alloc _).alloc _)
  have hB6 : But2 g p w wx := by
    rw [hwx]
    exact (((((But2.refl g p w).put (m * 2) y).box _).alloc _).alloc _).drew
  have hK5 : BlkSl wx w.heap.size ⟨0, 0⟩ := by
    rw [hwx]
    exact ((BlkSl.new ((putSl w g (m * 2) y).setCell ⟨p, 0, none⟩ (.slice (some ⟨g, 0, none⟩) m cap)) ⟨0, 0⟩ w.heap.size (by rw [sc_size, putSl_size])).alloc (.cells #[.int .i64 y.k, .int .i64 y.i] 33))
  have hK6 : BlkSl wx (w.heap.size + 1) y := by
    rw [hwx]
    exact BlkSl.new (((putSl w g (m * 2) y).setCell ⟨p, 0, none⟩ (.slice (some ⟨g, 0, none⟩) m cap)).alloc (.cells #[.int .i64 0, .int .i64 0] 33)) y (w.heap.size + 1) (by rw [World.size_alloc, sc_size, putSl_size])
  have n5 : w.heap.size ≠ g := by omega
  clear hwx f0 f1 d0 d1 b1 b2
  have hres := Lib.hid ((hK5.set y).cells)
  have HF : Hid (RowSl (putSl wx w.heap.size 0 y) g (qs.take m) ∧ BoxA (putSl wx w.heap.size 0 y) p (.slice (some ⟨g, 0, none⟩) m cap) ∧ But2 g p w (putSl wx w.heap.size 0 y)) := Lib.hid ⟨hR6.but ((ButB.refl _ wx).put 0 y) (fun h => n5 h.symm), hP6.put (by have := b0; omega) 0 y, hB6.far (Nat.le_refl _) 0 y⟩
  obtain ⟨l0, l1, _, _⟩ := hK6.cells
  obtain ⟨k0, k1, k2, k3⟩ := hK5.cells
  clear hR6 hP6 hB6 hK5 hK6
  go_wp2_with fail
  obtain ⟨q0, q1, _, _⟩ := hres.out
  have q0' : ((wx.setCell ⟨w.heap.size, 0, none⟩ (.int .i64 y.k)).setCell ⟨w.heap.size, 1, none⟩ (.int .i64 y.i)).cell? ⟨w.heap.size, 0, none⟩ = some (.int .i64 y.k) := q0
  have q1' : ((wx.setCell ⟨w.heap.size, 0, none⟩ (.int .i64 y.k)).setCell ⟨w.heap.size, 1, none⟩ (.int .i64 y.i)).cell? ⟨w.heap.size, 1, none⟩ = some (.int .i64 y.i) := q1
  refine bodyPost_ret (v := .agg #[.int .i64 y.k, .int .i64 y.i]) (by simp [results, Try.results49, go_sem, q0', q1']) rfl ?_
  rw [HE.out]
  exact ⟨rfl, HF.out⟩
theorem implTake_any (g p cap i m : Nat) (qs : List Sl) (w : World) (hn : qs.length = m + 1) (hl : m + 1 ≤ 1048576) (hi : i ≤ m) (hr : RowSl w g qs) (hp : BoxA w p (.slice (some ⟨g, 0, none⟩) (m + 1) cap)) (hgp : g ≠ p) (hcap : m + 1 ≤ cap) : Calls Try.prog 49 #[.pointer (some ⟨p, 0, none⟩), .int .i64 i] w fun e w' => e = .returned (.agg #[.int .i64 qs[i]!.k, .int .i64 qs[i]!.i]) ∧ RowSl w' g (takeL qs i) ∧ BoxA w' p (.slice (some ⟨g, 0, none⟩) m cap) ∧ But2 g p w w' := by
  by_cases h : i = m
  · rw [h]
    exact implTake_end g p cap m qs w hn hl hr hp hgp hcap
  · exact implTake_mid g p cap i m qs w hn hl (by omega) hr hp hgp hcap
end Go.Proofs.Yteaapglkomlnhaa
