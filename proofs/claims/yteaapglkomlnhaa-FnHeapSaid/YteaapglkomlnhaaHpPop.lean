/- HeapPop of the model and of the program. No condition of its own. -/
import Derived.Test.YteaapglkomlnhaaHpSort
namespace Go.Proofs.Yteaapglkomlnhaa
open Go.ChangeShapes Go.WideShapes Go.ChangeAt Go.WideMaps Go.WideElems Go.RowKit

def popL (qs : List Sl) : List Sl := if codeS qs = 0 ∧ 0 < qs.length then takeL qs 0 else []
def popX (qs : List Sl) : Sl := if codeS qs = 0 ∧ 0 < qs.length then qs[0]! else ⟨0, 0⟩
def popC (qs : List Sl) : Int := if codeS qs = 0 then (if qs.length = 0 then 5 else 0) else codeS qs
theorem popL_length (qs : List Sl) : (popL qs).length ≤ qs.length := by
  unfold popL
  split
  · rw [takeL_length]
    omega
  · exact Nat.zero_le _
theorem pop_err {qs : List Sl} (h : codeS qs ≠ 0) : popL qs = [] ∧ popX qs = ⟨0, 0⟩ ∧ popC qs = codeS qs := ⟨if_neg fun g => h g.1, if_neg fun g => h g.1, if_neg h⟩
theorem pop_none {qs : List Sl} (h : codeS qs = 0) (h0 : qs.length = 0) : popL qs = [] ∧ popX qs = ⟨0, 0⟩ ∧ popC qs = 5 := by
  refine ⟨if_neg fun g => by omega, if_neg fun g => by omega, ?_⟩
  unfold popC
  rw [if_pos h, if_pos h0]
theorem pop_ok {qs : List Sl} (h : codeS qs = 0) (h0 : 0 < qs.length) : popL qs = takeL qs 0 ∧ popX qs = qs[0]! ∧ popC qs = 0 := by
  refine ⟨if_pos ⟨h, h0⟩, if_pos ⟨h, h0⟩, ?_⟩
  unfold popC
  rw [if_pos h, if_neg (by omega)]
def ResPop (w : World) (rs : List Sl) (x : Sl) (c : Int) (e : Ending) (w' : World) : Prop := ∃ u, e = .returned (.tuple #[u, .agg #[.int .i64 x.k, .int .i64 x.i], .int .i64 c]) ∧ SlsIn w' w.heap.size w'.heap.size true u rs ∧ Below w.heap.size w w'
theorem bp_name {P : Program} {fn : Func} {R : Ending → World → Prop} {x : Exit} {a : Act} {W : World} (h : ∀ wx, wx = W → bodyPost P fn R x a wx) : bodyPost P fn R x a W := h W rfl
theorem BlkSl.putNe {w : World} {p : Nat} {q : Sl} (h : BlkSl w p q) (r : Nat) (hr : p ≠ r) (o : Nat) (x : Sl) : BlkSl (putSl w r o x) p q := h.but ((ButB.refl r w).put o x) hr
set_option maxRecDepth 100000 in
set_option maxHeartbeats 2000000 in
theorem specPop_any (v : Value) (qs : List Sl) (A B : Nat) (z : Bool) (w : World) (hl : qs.length ≤ 1048576) (hBw : B ≤ w.heap.size) (hv : SlsIn w A B z v qs) : Calls Try.prog 20 #[v] w (ResPop w (popL qs) (popX qs) (popC qs)) := by
  obtain ⟨w0, hw0⟩ : ∃ w0, w.alloc (.cells #[.int .i64 0, .int .i64 0] 33) = w0 := ⟨_, rfl⟩
  have hb0 : Below w.heap.size w w0 := by
    rw [← hw0]
    exact (Below.refl _ _).alloc (Nat.le_refl _) _
  have hK0 : BlkSl w0 w.heap.size ⟨0, 0⟩ := by
    rw [← hw0]
    exact BlkSl.new w ⟨0, 0⟩ _ rfl
  have HV := Lib.hid (hv.below hb0 hBw)
  have HB0 := Lib.hid hb0
  have HK0 := Lib.hid hK0
  have hB0 : B ≤ w0.heap.size := Nat.le_trans hBw hb0.size
  have hzl : w.heap.size < w0.heap.size := by rw [← hw0]; simp
  obtain ⟨a, cap, rfl, _⟩ := hv
  obtain ⟨k0, k1, k2, k3⟩ := hK0.cells
  rcases codeS_cases qs with ⟨h1, h2⟩ | ⟨h1, hb, h2⟩ | ⟨hb, h1, h2⟩
  · have HC := Lib.hid h2
    have HR := Lib.hid (pop_err (by rw [h2]; decide : codeS qs ≠ 0))
    have s1 : (qs.length : Int) > 4096 := by omega
    clear h2 hb0 hK0
    go_enter Try.func20, Try.ntmps20
    go_wp2_with fail
    refine bp_name ?_
    intro wx hwx
    have hk : BlkSl wx w.heap.size (⟨0, 0⟩ : Sl) := by
      rw [hwx]
      exact (HK0.out.set ⟨0, 0⟩).alloc _
    have HBX : Hid (Below w.heap.size w wx) := Lib.hid (by
      rw [hwx]
      exact (putSl_below HB0.out (Nat.le_refl _) 0 ⟨0, 0⟩).alloc (by rw [putSl_size]; exact HB0.out.size) _)
    have HUX : Hid (SlsIn wx w.heap.size wx.heap.size true (.slice (some ⟨w0.heap.size, 0, none⟩) 0 0) (popL qs)) := Lib.hid (by
      rw [HR.out.1]
      exact nil_in _ _ _ _ _ _ (Nat.zero_le _))
    obtain ⟨q0, q1, _, _⟩ := hk.cells
    clear hwx hk
    refine bodyPost_ret (v := .tuple #[.slice (some ⟨w0.heap.size, 0, none⟩) 0 0, .agg #[.int .i64 (⟨0, 0⟩ : Sl).k, .int .i64 (⟨0, 0⟩ : Sl).i], .int .i64 2]) (by simp [results, Try.results20, go_sem, q0, q1]) rfl ?_
    rw [HR.out.2.1, HR.out.2.2, HC.out]
    exact ⟨_, rfl, HUX.out, HBX.out⟩
  · have HC := Lib.hid h2
    have HR := Lib.hid (pop_err (by rw [h2]; decide : codeS qs ≠ 0))
    have HH := Lib.hid hb
    have s1 : ¬ (qs.length : Int) > 4096 := by omega
    clear h2 hb hb0 hK0
    go_enter Try.func20, Try.ntmps20
    go_wp2_with fail
    refine (spec08_any _ qs A B z _ hl hB0 HV.out).mono ?_
    rw [HH.out]
    rintro e w1 ⟨rfl, hb⟩
    have HB1 := Lib.hid (HB0.out.trans (hb.mono HB0.out.size))
    have hk1 := HK0.out.below hb
    have HK1 := Lib.hid hk1
    have hzl1 : w.heap.size < w1.heap.size := by have := hb.size; omega
    obtain ⟨k4, k5, k6, k7⟩ := hk1.cells
    clear hb hk1 k0 k1 k2 k3
    go_wp2_with fail
    refine bp_name ?_
    intro wx hwx
    have hk : BlkSl wx w.heap.size (⟨0, 0⟩ : Sl) := by
      rw [hwx]
      exact (HK1.out.set ⟨0, 0⟩).alloc _
    have HBX : Hid (Below w.heap.size w wx) := Lib.hid (by
      rw [hwx]
      exact (putSl_below HB1.out (Nat.le_refl _) 0 ⟨0, 0⟩).alloc (by rw [putSl_size]; exact HB1.out.size) _)
    have HUX : Hid (SlsIn wx w.heap.size wx.heap.size true (.slice (some ⟨w1.heap.size, 0, none⟩) 0 0) (popL qs)) := Lib.hid (by
      rw [HR.out.1]
      exact nil_in _ _ _ _ _ _ (Nat.zero_le _))
    obtain ⟨q0, q1, _, _⟩ := hk.cells
    clear hwx hk
    refine bodyPost_ret (v := .tuple #[.slice (some ⟨w1.heap.size, 0, none⟩) 0 0, .agg #[.int .i64 (⟨0, 0⟩ : Sl).k, .int .i64 (⟨0, 0⟩ : Sl).i], .int .i64 1]) (by simp [results, Try.results20, go_sem, q0, q1]) rfl ?_
    rw [HR.out.2.1, HR.out.2.2, HC.out]
    exact ⟨_, rfl, HUX.out, HBX.out⟩
  · have HC := Lib.hid h2
    have HH := Lib.hid hb
    have s1 : ¬ (qs.length : Int) > 4096 := by omega
    clear h2 hb hb0 hK0
    by_cases h0 : 0 < qs.length
    · have HR := Lib.hid (pop_ok HC.out h0)
      obtain ⟨m, hm⟩ : ∃ m, qs.length = m + 1 := ⟨qs.length - 1, by omega⟩
      have HM := Lib.hid hm
      have hml : m + 1 ≤ 1048576 := by omega
      obtain ⟨x, hx⟩ : ∃ x, qs[0]! = x := ⟨_, rfl⟩
      rw [hx] at HR
      have HXQ : Hid (∃ g off, a = some ⟨g, off, none⟩ ∧ g < B ∧ SlAt w0 g off x) := Lib.hid (by
        obtain ⟨a', cap', e, _, _, hxx⟩ := HV.out
        injection e with e1 _ _
        subst e1
        obtain ⟨g, off, rfl, _, hg, hc⟩ := hxx h0
        have := (hc 0 h0).1
        rw [← getElem!_pos qs 0 h0, hx, Nat.zero_mul, Nat.add_zero] at this
        exact ⟨g, off, rfl, hg, this⟩)
      obtain ⟨g, off, rfl, hgB, hxa⟩ := HXQ.out
      have HXA := Lib.hid hxa
      have sne : ((qs.length : Int) == 0) = false := by
        rw [beq_eq_false_iff_ne]
        omega
      have s0 : (0 : Int) < (qs.length : Int) := by omega
      clear hxa hx hm
      go_enter Try.func20, Try.ntmps20
      go_wp2_with fail
      refine (spec08_any _ qs A B z _ hl hB0 HV.out).mono ?_
      rw [HH.out]
      rintro e w1 ⟨rfl, hb⟩
      have HB1 := Lib.hid (HB0.out.trans (hb.mono HB0.out.size))
      have HV1 := Lib.hid (HV.out.below hb hB0)
      have hk1 := HK0.out.below hb
      have HK1 := Lib.hid hk1
      have hzl1 : w.heap.size < w1.heap.size := by have := hb.size; omega
      have hB1 : B ≤ w1.heap.size := by omega
      have hx1 := HXA.out.below hb (by omega)
      have HX1 := Lib.hid hx1
      obtain ⟨c0, c1⟩ := hx1
      obtain ⟨k4, k5, k6, k7⟩ := hk1.cells
      have HTK := Lib.hid (specTake_any (.slice (some ⟨g, off, none⟩) qs.length cap) qs A B z 0 m w1.drew HM.out hml hB1 (Nat.zero_le _) HV1.out)
      clear hb hk1 k0 k1 k2 k3
      go_wp2_with fail
      go_region_with (go_at_call 48; refine HTK.out.mono ?_; rintro e w3 ⟨u, rfl, hn, hb⟩; have HN3 := Lib.hid hn; have HB3 := Lib.hid ((Below.refl w1.heap.size w1).drew.trans hb); have hk3 := HK1.out.below HB3.out; have HK3 := Lib.hid hk3; obtain ⟨k8, k9, k10, k11⟩ := hk3.cells; obtain ⟨c2, c3⟩ := HX1.out.below HB3.out (by omega); clear hn hb hk3)
      all_goals go_wp2_with fail
      all_goals
        refine bp_name ?_
        intro wx hwx
        have hk : BlkSl wx w.heap.size x := by
          rw [hwx]
          exact HK3.out.set x
        have HBX : Hid (Below w.heap.size w wx) := Lib.hid (by
          rw [hwx]
          exact putSl_below (HB1.out.trans (HB3.out.mono HB1.out.size)) (Nat.le_refl _) 0 x)
        have HUX : Hid (SlsIn wx w.heap.size wx.heap.size true u (popL qs)) := Lib.hid (by
          rw [HR.out.1, hwx]
          obtain ⟨g5, cp5, rfl, n1, n2, n3, n4⟩ := HN3.out
          have n3' : w1.heap.size ≤ g5 := n3
          have hrow := n4.but ((ButB.refl w.heap.size w3).put 0 x) (by omega)
          exact hrow.in (by omega) hrow.1 n1 n2)
        obtain ⟨q0, q1, _, _⟩ := hk.cells
        clear hwx hk
        refine bodyPost_ret (v := .tuple #[u, .agg #[.int .i64 x.k, .int .i64 x.i], .int .i64 0]) (by simp [results, Try.results20, go_sem, q0, q1]) rfl ?_
        rw [HR.out.2.1, HR.out.2.2]
        exact ⟨_, rfl, HUX.out, HBX.out⟩
    · have hq : qs.length = 0 := by omega
      have HR := Lib.hid (pop_none HC.out hq)
      have sne : ((qs.length : Int) == 0) = true := by simp [hq]
      clear hq h0
      go_enter Try.func20, Try.ntmps20
      go_wp2_with fail
      refine (spec08_any _ qs A B z _ hl hB0 HV.out).mono ?_
      rw [HH.out]
      rintro e w1 ⟨rfl, hb⟩
      have HB1 := Lib.hid (HB0.out.trans (hb.mono HB0.out.size))
      have hk1 := HK0.out.below hb
      have HK1 := Lib.hid hk1
      have hzl1 : w.heap.size < w1.heap.size := by have := hb.size; omega
      obtain ⟨k4, k5, k6, k7⟩ := hk1.cells
      clear hb hk1 k0 k1 k2 k3
      go_wp2_with fail
      refine bp_name ?_
      intro wx hwx
      have hk : BlkSl wx w.heap.size (⟨0, 0⟩ : Sl) := by
        rw [hwx]
        exact (HK1.out.set ⟨0, 0⟩).alloc _
      have HBX : Hid (Below w.heap.size w wx) := Lib.hid (by
        rw [hwx]
        exact (putSl_below HB1.out (Nat.le_refl _) 0 ⟨0, 0⟩).alloc (by rw [putSl_size]; exact HB1.out.size) _)
      have HUX : Hid (SlsIn wx w.heap.size wx.heap.size true (.slice (some ⟨w1.heap.size, 0, none⟩) 0 0) (popL qs)) := Lib.hid (by
        rw [HR.out.1]
        exact nil_in _ _ _ _ _ _ (Nat.zero_le _))
      obtain ⟨q0, q1, _, _⟩ := hk.cells
      clear hwx hk
      refine bodyPost_ret (v := .tuple #[.slice (some ⟨w1.heap.size, 0, none⟩) 0 0, .agg #[.int .i64 (⟨0, 0⟩ : Sl).k, .int .i64 (⟨0, 0⟩ : Sl).i], .int .i64 5]) (by simp [results, Try.results20, go_sem, q0, q1]) rfl ?_
      rw [HR.out.2.1, HR.out.2.2]
      exact ⟨_, rfl, HUX.out, HBX.out⟩
theorem BlkSl.but2 {w w' : World} {g p r : Nat} {q : Sl} (h : BlkSl w r q) (hb : But2 g p w w') (hg : r ≠ g) (hp : r ≠ p) : BlkSl w' r q := (hb.block r h.lt hg hp).trans h
set_option maxRecDepth 100000 in
set_option maxHeartbeats 2000000 in
theorem implPop_any (v : Value) (qs : List Sl) (A B : Nat) (z : Bool) (w : World) (hl : qs.length ≤ 1048576) (hBw : B ≤ w.heap.size) (hv : SlsIn w A B z v qs) : Calls Try.prog 21 #[v] w (ResPop w (popL qs) (popX qs) (popC qs)) := by
  obtain ⟨w0, hw0⟩ : ∃ w0, w.alloc (.cells #[.int .i64 0, .int .i64 0] 33) = w0 := ⟨_, rfl⟩
  have hb0 : Below w.heap.size w w0 := by
    rw [← hw0]
    exact (Below.refl _ _).alloc (Nat.le_refl _) _
  have hK0 : BlkSl w0 w.heap.size ⟨0, 0⟩ := by
    rw [← hw0]
    exact BlkSl.new w ⟨0, 0⟩ _ rfl
  have HV := Lib.hid (hv.below hb0 hBw)
  have HB0 := Lib.hid hb0
  have HK0 := Lib.hid hK0
  have hB0 : B ≤ w0.heap.size := Nat.le_trans hBw hb0.size
  have hzl : w.heap.size < w0.heap.size := by rw [← hw0]; simp
  obtain ⟨a, cap, rfl, _⟩ := hv
  by_cases hc : codeS qs = 0
  · have HC := Lib.hid hc
    have e0 : ((0 : Int) != 0) = false := by decide
    clear hc hb0 hK0
    by_cases h0 : 0 < qs.length
    · have HR := Lib.hid (pop_ok HC.out h0)
      obtain ⟨m, hm⟩ : ∃ m, qs.length = m + 1 := ⟨qs.length - 1, by omega⟩
      have HM := Lib.hid hm
      have hml : m + 1 ≤ 1048576 := by omega
      obtain ⟨x, hx⟩ : ∃ x, qs[0]! = x := ⟨_, rfl⟩
      rw [hx] at HR
      have HX := Lib.hid hx
      have HLT : Hid ((takeL qs 0).length = m) := Lib.hid (by rw [takeL_length]; omega)
      have sne : (((m : Int) + 1) == 0) = false := by
        rw [beq_eq_false_iff_ne]
        omega
      clear hx hm
      go_enter Try.func21, Try.ntmps21
      go_wp2_with fail
      refine (cloneHeap_any _ qs A B z _ hl hB0 HV.out).mono ?_
      rintro e w1 ⟨hb, ⟨hne, _⟩ | ⟨_, g, rfl, ho⟩⟩
      · exact absurd HC.out hne
      have hm := HM.out
      rw [hm] at ho ⊢
      have HB1 := Lib.hid (HB0.out.trans (hb.mono HB0.out.size))
      have HK2 := Lib.hid ((HK0.out.below hb).alloc (.cells #[.slice (some ⟨g, 0, none⟩) (m + 1) (m + 1)] 57))
      have HO2 := Lib.hid (own_alloc ho (.cells #[.slice (some ⟨g, 0, none⟩) (m + 1) (m + 1)] 57))
      have HB2 := Lib.hid (HB1.out.alloc HB1.out.size (.cells #[.slice (some ⟨g, 0, none⟩) (m + 1) (m + 1)] 57))
      have HP2 := Lib.hid (BoxA.new w1 57 (.slice (some ⟨g, 0, none⟩) (m + 1) (m + 1)))
      have hgw := ho.row.1
      have hgl := ho.row.2.2.2.1
      have hw1 := hb.size
      have HT := Lib.hid (implTake_any g w1.heap.size (m + 1) 0 m qs _ HM.out hml (Nat.zero_le _) HO2.out.row.2.2.2 HP2.out (by omega) (Nat.le_refl _))
      rw [HX.out] at HT
      clear hb ho hm
      go_wp2_with fail
      refine HT.out.mono ?_
      rintro e w4 ⟨rfl, hr, hp, hbt⟩
      have HR4 := Lib.hid hr
      have HP4 := Lib.hid hp
      have HB4 := Lib.hid (HB2.out.trans (hbt.below (B := w.heap.size) (by omega) (by omega) HB2.out.size))
      have hk4 := HK2.out.but2 hbt (by omega) (by omega)
      have HK4 := Lib.hid hk4
      have hp5 := hp.alloc (.cells #[.int .i64 x.k, .int .i64 x.i] 33)
      obtain ⟨_, b1, b2⟩ := hp
      obtain ⟨k4, k5, k6, k7⟩ := hk4.cells
      have hz4 := hk4.lt
      clear hr hbt hk4 hp5
      go_wp2_with fail
      go_region
      all_goals go_wp2_with fail
      all_goals
        refine bp_name ?_
        intro wx hwx
        have hk : BlkSl wx w.heap.size x := by
          rw [hwx]
          exact (HK4.out.set x).alloc _
        have HBX : Hid (Below w.heap.size w wx) := Lib.hid (by
          rw [hwx]
          exact ((putSl_below HB4.out (Nat.le_refl _) 0 x).alloc (by rw [putSl_size]; exact HB4.out.size) (.cells #[.int .i64 x.k, .int .i64 x.i] 33)).drew)
        have HUX : Hid (SlsIn wx w.heap.size wx.heap.size true (.slice (some ⟨g, 0, none⟩) m (m + 1)) (popL qs)) := Lib.hid (by
          rw [HR.out.1, hwx]
          have hrow := (HR4.out.but ((ButB.refl w.heap.size w4).put 0 x) (by omega)).alloc (.cells #[.int .i64 x.k, .int .i64 x.i] 33)
          have := hrow.in (A := w.heap.size) (cap := m + 1) (by omega) hrow.1 (by rw [HLT.out]; omega) (by unfold maxLen; omega)
          rw [HLT.out] at this
          exact this)
        obtain ⟨q0, q1, _, _⟩ := hk.cells
        clear hwx hk
        refine bodyPost_ret (v := .tuple #[.slice (some ⟨g, 0, none⟩) m (m + 1), .agg #[.int .i64 x.k, .int .i64 x.i], .int .i64 0]) (by simp [results, Try.results21, go_sem, q0, q1]) rfl ?_
        rw [HR.out.2.1, HR.out.2.2]
        exact ⟨_, rfl, HUX.out, HBX.out⟩
    · have hq : qs.length = 0 := by omega
      have HR := Lib.hid (pop_none HC.out hq)
      have sne : ((qs.length : Int) == 0) = true := by simp [hq]
      clear hq h0
      go_enter Try.func21, Try.ntmps21
      go_wp2_with fail
      refine (cloneHeap_any _ qs A B z _ hl hB0 HV.out).mono ?_
      rintro e w1 ⟨hb, ⟨hne, _⟩ | ⟨_, g, rfl, ho⟩⟩
      · exact absurd HC.out hne
      have HB1 := Lib.hid (HB0.out.trans (hb.mono HB0.out.size))
      have hk1 := HK0.out.below hb
      have HK1 := Lib.hid hk1
      obtain ⟨k4, k5, k6, k7⟩ := hk1.cells
      have hz1 := hk1.lt
      clear hb hk1 ho
      go_wp2_with fail
      refine bp_name ?_
      intro wx hwx
      have hk : BlkSl wx w.heap.size (⟨0, 0⟩ : Sl) := by
        rw [hwx]
        exact (HK1.out.set ⟨0, 0⟩).alloc _
      have HBX : Hid (Below w.heap.size w wx) := Lib.hid (by
        rw [hwx]
        exact (putSl_below HB1.out (Nat.le_refl _) 0 ⟨0, 0⟩).alloc (by rw [putSl_size]; exact HB1.out.size) _)
      have HUX : Hid (SlsIn wx w.heap.size wx.heap.size true (.slice none 0 0) (popL qs)) := Lib.hid (by
        rw [HR.out.1]
        exact nil_in _ _ _ _ _ _ (Nat.zero_le _))
      obtain ⟨q0, q1, _, _⟩ := hk.cells
      clear hwx hk
      refine bodyPost_ret (v := .tuple #[.slice none 0 0, .agg #[.int .i64 (⟨0, 0⟩ : Sl).k, .int .i64 (⟨0, 0⟩ : Sl).i], .int .i64 5]) (by simp [results, Try.results21, go_sem, q0, q1]) rfl ?_
      rw [HR.out.2.1, HR.out.2.2]
      exact ⟨_, rfl, HUX.out, HBX.out⟩
  · have HR := Lib.hid (pop_err hc)
    have hne : (codeS qs != 0) = true := by simpa using hc
    have HC := Lib.hid hc
    obtain ⟨c, hcc⟩ : ∃ c, codeS qs = c := ⟨_, rfl⟩
    rw [hcc] at HR hne HC
    have HCC := Lib.hid hcc
    clear hc hcc hb0 hK0
    go_enter Try.func21, Try.ntmps21
    go_wp2_with fail
    refine (cloneHeap_any _ qs A B z _ hl hB0 HV.out).mono ?_
    unfold ClonePost
    rw [HCC.out]
    rintro e w1 ⟨hb, ⟨_, rfl⟩ | ⟨h0, _⟩⟩
    · have HB1 := Lib.hid (HB0.out.trans (hb.mono HB0.out.size))
      have hk1 := HK0.out.below hb
      have HK1 := Lib.hid hk1
      obtain ⟨k4, k5, k6, k7⟩ := hk1.cells
      have hz1 := hk1.lt
      clear hb hk1
      go_wp2_with fail
      refine bp_name ?_
      intro wx hwx
      have hk : BlkSl wx w.heap.size (⟨0, 0⟩ : Sl) := by
        rw [hwx]
        exact (HK1.out.set ⟨0, 0⟩).alloc _
      have HBX : Hid (Below w.heap.size w wx) := Lib.hid (by
        rw [hwx]
        exact (putSl_below HB1.out (Nat.le_refl _) 0 ⟨0, 0⟩).alloc (by rw [putSl_size]; exact HB1.out.size) _)
      have HUX : Hid (SlsIn wx w.heap.size wx.heap.size true (.slice none 0 0) (popL qs)) := Lib.hid (by
        rw [HR.out.1]
        exact nil_in _ _ _ _ _ _ (Nat.zero_le _))
      obtain ⟨q0, q1, _, _⟩ := hk.cells
      clear hwx hk
      refine bodyPost_ret (v := .tuple #[.slice none 0 0, .agg #[.int .i64 (⟨0, 0⟩ : Sl).k, .int .i64 (⟨0, 0⟩ : Sl).i], .int .i64 c]) (by simp [results, Try.results21, go_sem, q0, q1]) rfl ?_
      rw [HR.out.2.1, HR.out.2.2]
      exact ⟨_, rfl, HUX.out, HBX.out⟩
    · exact absurd h0 HC.out
end Go.Proofs.Yteaapglkomlnhaa
