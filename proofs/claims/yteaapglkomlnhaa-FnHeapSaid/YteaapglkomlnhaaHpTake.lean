/- A slot taken, in the model. No condition of its own. -/
import Derived.Test.YteaapglkomlnhaaHpApp
namespace Go.Proofs.Yteaapglkomlnhaa
open Go.ChangeShapes Go.WideShapes Go.ChangeAt Go.WideMaps Go.WideElems Go.RowKit

/-- A slice of slots from a block that was made. -/
def NewSl (B : Nat) (w : World) (u : Value) (qs : List Sl) : Prop := ∃ g cap, u = .slice (some ⟨g, 0, none⟩) qs.length cap ∧ qs.length ≤ cap ∧ cap ≤ maxLen ∧ B ≤ g ∧ RowSl w g qs
theorem NewSl.in {B : Nat} {w : World} {u : Value} {qs : List Sl} (h : NewSl B w u qs) : SlsIn w B w.heap.size true u qs := by
  obtain ⟨g, cap, rfl, h1, h2, h3, h4⟩ := h
  exact h4.in h3 h4.1 h1 h2
theorem NewSl.below {B : Nat} {w w' : World} {u : Value} {qs : List Sl} (h : NewSl B w u qs) (hb : Below w.heap.size w w') : NewSl B w' u qs := by
  obtain ⟨g, cap, rfl, h1, h2, h3, h4⟩ := h
  exact ⟨g, cap, rfl, h1, h2, h3, h4.below hb⟩
theorem NewSl.more {B B' : Nat} {w : World} {u : Value} {qs : List Sl} (h : NewSl B w u qs) (hB : B' ≤ B) : NewSl B' w u qs := by
  obtain ⟨g, cap, rfl, h1, h2, h3, h4⟩ := h
  exact ⟨g, cap, rfl, h1, h2, Nat.le_trans hB h3, h4⟩
theorem SlsIn.take {w : World} {A B : Nat} {z : Bool} {a : Option Addr} {len cap : Nat} {qs : List Sl} {m : Nat} (h : SlsIn w A B z (.slice a len cap) qs) (hm : m ≤ qs.length) : SlsIn w A B z (.slice a m cap) (qs.take m) := by
  obtain ⟨a', cap', e, h1, h2, h3⟩ := h
  injection e with e1 e2 e3
  subst e1 e2 e3
  have hl : (qs.take m).length = m := by rw [List.length_take]; omega
  refine ⟨a, cap, by rw [hl], by omega, h2, fun h0 => ?_⟩
  obtain ⟨g, off, rfl, h4, h5, h6⟩ := h3 (by omega)
  refine ⟨g, off, rfl, h4, h5, fun j hj => ?_⟩
  rw [List.getElem_take]
  exact h6 j (by omega)
theorem takeL_end {qs : List Sl} {i n : Nat} (hn : qs.length = n) (hi : i = n - 1) : takeL qs i = qs.take (n - 1) := by
  unfold takeL
  rw [hn, if_pos hi]
theorem takeL_mid {qs : List Sl} {i m : Nat} (hn : qs.length = m + 1) (hi : i ≠ m) : takeL qs i = downL (upL ((qs.take m).set i qs[m]!) i).1 (upL ((qs.take m).set i qs[m]!) i).2 := by
  unfold takeL
  rw [hn, if_neg (by omega), Nat.add_sub_cancel]
set_option maxHeartbeats 2000000 in
set_option maxRecDepth 100000 in
theorem specTake_any (v : Value) (qs : List Sl) (A B : Nat) (z : Bool) (i m : Nat) (w : World) (hn : qs.length = m + 1) (hl : m + 1 ≤ 1048576) (hBw : B ≤ w.heap.size) (hi : i ≤ m) (hv : SlsIn w A B z v qs) : Calls Try.prog 48 #[v, .int .i64 i] w fun e w' => ∃ u, e = .returned u ∧ NewSl w.heap.size w' u (takeL qs i) ∧ Below w.heap.size w w' := by
  obtain ⟨a, len, cap, rfl⟩ : ∃ a len cap, v = .slice a len cap := by
    obtain ⟨a, cap, e, _⟩ := hv
    exact ⟨a, _, cap, e⟩
  have hlen : len = m + 1 := by
    obtain ⟨a, cap, e, _⟩ := hv
    injection e with e1 e2 e3
    omega
  subst hlen
  have HV := Lib.hid hv
  have HN := Lib.hid hn
  obtain ⟨a', cap', e, h1, h2, h3⟩ := id hv
  injection e with e1 e2 e3
  subst e1 e3
  clear e2
  obtain ⟨g, off, rfl, hAg, hgB, hcl⟩ := h3 (by omega)
  have HX := Lib.hid hcl
  have sm : ((m + 1 : Nat) : Int) - 1 = (m : Int) := by omega
  have sm2 : (m : Int) + 1 - 1 = (m : Int) := by omega
  have hmc : m ≤ cap := by omega
  have hmc2 : (m : Int) ≤ cap := by omega
  have HS : Hid (SlsIn (w.alloc (.cells #[] 33)) A B z (.slice (some ⟨g, off, none⟩) m cap) (qs.take m)) := Lib.hid ((hv.take (by omega)).below ((Below.refl _ _).alloc (Nat.le_refl _) _) hBw)
  clear h1 h3 hcl hv hn
  have HC1 : Hid (([] : List Sl).length + (qs.take m).length ≤ 2097152) := Lib.hid (by
    have := HN.out
    rw [List.length_take]
    simp
    omega)
  have HC3 : Hid (m = (([] : List Sl) ++ qs.take m).length) := Lib.hid (by
    have := HN.out
    rw [List.nil_append, List.length_take]
    omega)
  have HLT : Hid ((qs.take m).length = m) := Lib.hid (by have := HN.out; rw [List.length_take]; omega)
  have hbase : w.heap.size ≤ (w.alloc (.cells #[] 33)).heap.size := by simp
  have HW : Hid (∀ g1 cp1 w1, OwnSl w1 w.heap.size g1 cp1 ([] ++ qs.take m) → (w.alloc (.cells #[] 33)).grownBy w1 (some w.heap.size) → Below w.heap.size w w1 ∧ w.heap.size ≤ g1 ∧ m ≤ cp1 ∧ cp1 ≤ maxLen ∧ RowSl w1 g1 (qs.take m)) := Lib.hid fun g1 cp1 w1 hown hgrow => by
    rw [List.nil_append] at hown
    have hrow := hown.row
    rw [HLT.out] at hrow
    exact ⟨grow_below ((Below.refl _ _).alloc (Nat.le_refl _) _) hgrow (Nat.le_refl _) (by simp), hrow.1, hrow.2.1, hrow.2.2.1, hrow.2.2.2⟩
  by_cases him : i = m
  · subst him
    have e1 : ((i : Int) == (i : Int)) = true := by simp
    have HE : Hid (takeL qs i = qs.take i) := Lib.hid (takeL_end HN.out rfl)
    go_enter Try.func48, Try.ntmps48
    go_wp2_with (at_builtin; refine wpList_append_sl rfl (.tmp 10) (.tmp 13) 25 rfl Try.underlying25 w.heap.size w.heap.size 0 0 [] rfl rfl (OwnSl.empty w _ (Nat.le_refl _)) A B z _ i cap (qs.take i) rfl HS.out HC1.out hbase i HC3.out ?_; intro g1 cp1 w1 hown hgrow; obtain ⟨hb1, hg1, hcm1, hcm2, hrow⟩ := HW.out g1 cp1 w1 hown hgrow; have HR1 := Lib.hid hrow; have HB1 := Lib.hid hb1; clear hown hgrow hrow hb1)
    go_ret
    exact ⟨_, rfl, ⟨g1, cp1, by rw [HE.out, HLT.out]; rfl, by rw [HE.out, HLT.out]; exact hcm1, hcm2, hg1, by rw [HE.out]; exact HR1.out⟩, HB1.out⟩
  · have e1 : ((i : Int) == (m : Int)) = false := by
      rw [beq_eq_false_iff_ne]
      omega
    have HE := Lib.hid (takeL_mid HN.out him)
    have him2 : i < m := by omega
    obtain ⟨x, hx⟩ : ∃ x, qs[m]! = x := ⟨_, rfl⟩
    rw [hx] at HE
    have HQ : Hid (SlAt w g (off + m * 2) x) := Lib.hid (by
      have := (HX.out m (by have := HN.out; omega)).1
      rw [← getElem!_pos qs m, hx] at this
      exact this)
    have s1 : (i : Int) < m := by omega
    have s2 : (m : Int) < (m : Int) + 1 := by omega
    clear hx him
    go_enter Try.func48, Try.ntmps48
    go_wp2_with (at_builtin; refine wpList_append_sl rfl (.tmp 10) (.tmp 13) 25 rfl Try.underlying25 w.heap.size w.heap.size 0 0 [] rfl rfl (OwnSl.empty w _ (Nat.le_refl _)) A B z _ m cap (qs.take m) rfl HS.out HC1.out hbase m HC3.out ?_; intro g1 cp1 w1 hown hgrow; obtain ⟨hb1, hg1, hcm1, hcm2, hrow⟩ := HW.out g1 cp1 w1 hown hgrow; have HR1 := Lib.hid hrow; have HB1 := Lib.hid hb1; clear hown hgrow hrow hb1; obtain ⟨c0, c1⟩ := HQ.out.below HB1.out (by omega); obtain ⟨o0, o1, f0, f1⟩ := HR1.out.cells (t := i) (by rw [HLT.out]; exact him2); have HR2 := Lib.hid (HR1.out.put (j := i) (q := x) (by rw [HLT.out]; exact him2)); have HB2 := Lib.hid (putSl_below HB1.out hg1 (i * 2) x))
    have hL2 : ((qs.take m).set i x).length = m := by rw [List.length_set, HLT.out]
    have HR2' : RowSl ((w1.setCell ⟨g1, i * 2, none⟩ (.int .i64 x.k)).setCell ⟨g1, i * 2 + 1, none⟩ (.int .i64 x.i)) g1 ((qs.take m).set i x) := HR2.out
    refine (specUp_any g1 cp1 i m ((qs.take m).set i x) _ hL2 (by omega) him2 HR2').mono ?_
    rintro e w3 ⟨rfl, hr, hb⟩
    have HB3 : Hid (Below w.heap.size w w3) := Lib.hid (HB2.out.trans (hb.below hg1 HB2.out.size))
    have HR3 := Lib.hid hr
    have hU := upL_both i ((qs.take m).set i x)
    have HU1 : Hid ((upL ((qs.take m).set i x) i).1.length = m) := Lib.hid (hU.1.trans hL2)
    have hU2 : (upL ((qs.take m).set i x) i).2 < m := Nat.lt_of_le_of_lt hU.2 him2
    clear hr hb hU HR2' c0 c1 o0 o1 f0 f1 HR2 HB2
    go_wp2_with fail
    refine (specDown_any g1 cp1 _ m _ w3 HU1.out (by omega) hU2 HR3.out).mono ?_
    rintro e w4 ⟨rfl, hr, hb⟩
    have HB4 : Hid (Below w.heap.size w w4) := Lib.hid (HB3.out.trans (hb.below hg1 HB3.out.size))
    have HR4 := Lib.hid hr
    have HL4 : Hid ((takeL qs i).length = m) := Lib.hid (by rw [takeL_length]; have := HN.out; omega)
    clear hr hb
    go_wp2_with fail
    go_ret
    exact ⟨_, rfl, ⟨g1, cp1, by rw [HL4.out]; rfl, by rw [HL4.out]; exact hcm1, hcm2, hg1, by rw [HE.out]; exact HR4.out⟩, HB4.out⟩
end Go.Proofs.Yteaapglkomlnhaa
