/- A request: a law's argument, and RequestOK of both: what they answer; the law's walk. No condition of its own. -/
import Derived.Test.YtcaabnnkjnleeaaDoorCkMath
import Derived.Test.YtcaabnnkjnleeaaDoorRows
import Derived.Test.YtcaabnnkjnleeaaDoorPairOK
import Derived.Deep.Fields
import Derived.Deep.DeepHandedRow
namespace Go.Proofs.YtcaabnnkjnleeaaDoor
open Go.ChangeShapes Go.WideShapes Go.ChangeAt Go.WideMaps Go.WideElems Go.RowKit

/-- A request's host and path are well. -/
def reqB (h p : ByteArray) : Bool := hostB h && cpathB p
theorem open_request {H : Type} {enc : TypeId × Value → H} {P : Program} {w : World} {base b0 : Nat} {spare : Nat → Bool} {held : Bool} {r : Reach} {t ts tb : TypeId} {fs : Array Field} {v : Value} {d : DataW H} {p : List MemPlace}
    (hs : P.underlying t = some (.struct fs)) (hone : Go.Deep.oneCellFields P fs = true) (_ : P.cellsOf t = 6) (hn : fs.size = 6) (hty : fs.toList.map (·.type) = [ts, ts, tb, tb, tb, tb])
    (hS : P.underlying ts = some .string) (hB : P.underlying tb = some .bool)
    (hv : Value.okWide P w r b0 t v) (h : DataW.Trod enc P w base spare held t v d p) :
    ∃ (a b : ByteArray) (x y z u : Bool), v = .agg #[.string a, .string b, .bool x, .bool y, .bool z, .bool u] ∧ a.size ≤ maxLen ∧ b.size ≤ maxLen := by
  obtain ⟨cs, rfl, hsz⟩ := okWide_struct hs hv
  obtain ⟨fuel, hf⟩ := h
  obtain ⟨xs, m, _, _, hlen, hxl, hg⟩ := DataW.trod_struct hs hf
  have at_ : ∀ j, j < 6 → ∃ (fuel' : Nat) (z : DataW H × List MemPlace) (c : List Value), DataW.trod enc P w base spare held fuel' ([ts, ts, tb, tb, tb, tb].getD j 0) c = some z ∧ ∀ u, c = [u] → cs[j]? = some u := by
    intro j hj
    have hfj := Array.getElem?_eq_getElem (xs := fs) (i := j) (by omega)
    obtain ⟨ho, hk⟩ := Go.Deep.hone_of hone j _ hfj
    have h1 := hg j _ hfj
    have ht : (fs[j]'(by omega)).type = [ts, ts, tb, tb, tb, tb].getD j 0 := by
      rw [← hty, List.getD_eq_getElem?_getD, List.getElem?_map, Array.getElem?_toList, hfj]
      rfl
    rw [ho, hk, List.getElem?_eq_getElem (show j < xs.length by omega)] at h1
    rw [ht] at h1
    refine ⟨_, _, _, h1, fun u hu => ?_⟩
    have := congrArg (·[0]?) hu
    simpa [Value.cells, List.getElem?_take, List.getElem?_drop] using this
  have str : ∀ j, j < 6 → [ts, ts, tb, tb, tb, tb].getD j 0 = ts → ∃ u : ByteArray, cs[j]? = some (.string u) ∧ u.size ≤ maxLen := by
    intro j hj ht
    obtain ⟨f, z, c, h1, h2⟩ := at_ j hj
    rw [ht] at h1
    obtain ⟨u, hu, _, hm⟩ := DataW.trod_string hS h1
    exact ⟨u, h2 _ hu, hm⟩
  have boo : ∀ j, j < 6 → [ts, ts, tb, tb, tb, tb].getD j 0 = tb → ∃ u : Bool, cs[j]? = some (.bool u) := by
    intro j hj ht
    obtain ⟨f, z, c, h1, h2⟩ := at_ j hj
    rw [ht] at h1
    obtain ⟨u, hu, _⟩ := DataW.trod_bool hB h1
    exact ⟨u, h2 _ hu⟩
  obtain ⟨x0, h0, m0⟩ := str 0 (by omega) rfl
  obtain ⟨x1, h1, m1⟩ := str 1 (by omega) rfl
  obtain ⟨x2, h2⟩ := boo 2 (by omega) rfl
  obtain ⟨x3, h3⟩ := boo 3 (by omega) rfl
  obtain ⟨x4, h4⟩ := boo 4 (by omega) rfl
  obtain ⟨x5, h5⟩ := boo 5 (by omega) rfl
  refine ⟨x0, x1, x2, x3, x4, x5, ?_, m0, m1⟩
  congr 1
  apply Array.ext_getElem?
  intro i
  match i with
  | 0 => exact h0
  | 1 => exact h1
  | 2 => exact h2
  | 3 => exact h3
  | 4 => exact h4
  | 5 => exact h5
  | i + 6 => rw [Array.getElem?_eq_none (by omega), Array.getElem?_eq_none (by simp)]
theorem rq_head_at {p : ByteArray} (h0 : 0 < p.size) (c : UInt8) : (p.data.toList.head? == some c) = (((p[0]'h0).toNat : Int) == (c.toNat : Int)) := by
  have hl : 0 < p.data.toList.length := by simpa using h0
  have e : p.data.toList.head? = some (p[0]'h0) := by
    rw [List.head?_eq_getElem?, List.getElem?_eq_getElem hl]
    rfl
  rw [e]
  by_cases h : p[0]'h0 = c
  · rw [h]
    simp
  · have h2 : (((p[0]'h0).toNat : Int) == (c.toNat : Int)) = false := by
      rw [beq_eq_false_iff_ne]
      intro e2
      exact h (UInt8.toNat_inj.1 (by omega))
    rw [h2, beq_eq_false_iff_ne]
    simpa using h
theorem rq_head {s : ByteArray} (h : 0 < s.size) : (s.data.toList.head? == some 47) = (((s[0]'h).toNat : Int) == 47) := rq_head_at h 47
/-- A block that holds a request. -/
def RqB (w : World) (b : Nat) (ty : TypeId) (h p : ByteArray) (x y z u : Bool) : Prop := w.heap[b]? = some (.cells #[.string h, .string p, .bool x, .bool y, .bool z, .bool u] ty (0, 0))
theorem RqB.new (w : World) (ty : TypeId) (h p : ByteArray) (x y z u : Bool) : RqB (w.alloc (.cells #[.string h, .string p, .bool x, .bool y, .bool z, .bool u] ty)) w.heap.size ty h p x y z u := heap_alloc_new w _
theorem RqB.lt {w : World} {b : Nat} {ty : TypeId} {h p : ByteArray} {x y z u : Bool} (hb : RqB w b ty h p x y z u) : b < w.heap.size := (Array.getElem?_eq_some_iff.1 hb).1
theorem RqB.stays {w w' : World} {b : Nat} {ty : TypeId} {h p : ByteArray} {x y z u : Bool} (hb : RqB w b ty h p x y z u) (k : Below w.heap.size w w') : RqB w' b ty h p x y z u := (k.block b hb.lt).trans hb
theorem RqB.at {w : World} {b : Nat} {ty : TypeId} {h p : ByteArray} {x y z u : Bool} (hb : RqB w b ty h p x y z u) : w.cell? ⟨b, 0, none⟩ = some (.string h) ∧ w.cell? ⟨b, 1, none⟩ = some (.string p) ∧ w.cell? ⟨b, 2, none⟩ = some (.bool x) ∧ w.cell? ⟨b, 3, none⟩ = some (.bool y) ∧ w.cell? ⟨b, 4, none⟩ = some (.bool z) ∧ w.cell? ⟨b, 5, none⟩ = some (.bool u) := by
  refine ⟨?_, ?_, ?_, ?_, ?_, ?_⟩ <;> simp [World.cell?, show w.heap[b]? = _ from hb]
set_option maxHeartbeats 2000000 in
set_option maxRecDepth 100000 in
theorem implRequest_any (h p : ByteArray) (x y z u : Bool) (w : World) (hh : h.size ≤ 1048576) (hp : p.size ≤ 1048576) (hT : TabAt w) : Calls Tryd.prog 36 #[.agg #[.string h, .string p, .bool x, .bool y, .bool z, .bool u]] w fun e w' => e = .returned (.bool (reqB h p)) ∧ Below w.heap.size w w' := by
  have hb0 := (Below.refl w.heap.size w).alloc (Nat.le_refl _) (.cells #[.string h, .string p, .bool x, .bool y, .bool z, .bool u] 58)
  have HB0 := Lib.hid hb0
  have HT := Lib.hid (hT.below hb0)
  have HP0 := Lib.hid (RqB.new w 58 h p x y z u)
  have hh0 : Hid (h.size ≤ maxLen) := Lib.hid (by unfold maxLen; omega)
  have hp0 : Hid (p.size ≤ maxLen) := Lib.hid (by unfold maxLen; omega)
  obtain ⟨c0, c1, c2, c3, c4, c5⟩ := HP0.out.at
  clear hT hb0
  cases gh : hostB h with
  | false =>
    have HE : Hid (reqB h p = false) := Lib.hid (by rw [reqB, gh]; rfl)
    have HH := Lib.hid (implHostOK h _ hh0.out HT.out)
    rw [gh] at HH
    clear gh
    go_enter Tryd.func36, Tryd.ntmps36
    go_wp2_with fail
    refine HH.out.mono ?_
    rintro e w1 ⟨rfl, hb⟩
    have HB1 := Lib.hid (HB0.out.trans (hb.mono HB0.out.size))
    clear hb
    go_wp2_with fail
    go_ret
    exact ⟨bool_end HE.out.symm, HB1.out⟩
  | true =>
    have HE : Hid (reqB h p = cpathB p) := Lib.hid (by rw [reqB, gh]; rfl)
    have HH := Lib.hid (implHostOK h _ hh0.out HT.out)
    rw [gh] at HH
    clear gh
    go_enter Tryd.func36, Tryd.ntmps36
    go_wp2_with fail
    refine HH.out.mono ?_
    rintro e w1 ⟨rfl, hb⟩
    have HB1 := Lib.hid (HB0.out.trans (hb.mono HB0.out.size))
    have HT1 := Lib.hid (HT.out.below hb)
    have HP1 := Lib.hid (HP0.out.stays hb)
    clear hb c0 c1 c2 c3 c4 c5
    obtain ⟨c0, c1, c2, c3, c4, c5⟩ := HP1.out.at
    by_cases h1 : (p.size : Int) ≤ 60
    · go_wp2_with fail
      refine (prefix_any p 47 _).mono ?_
      rintro e w' ⟨rfl, rfl⟩
      cases g0 : (p.data.toList.head? == some 47) with
      | false =>
        have G0 := Lib.hid g0
        go_wp2_with fail
        go_ret
        exact ⟨bool_end (by rw [HE.out]; simp [cpathB, slashB, G0.out]), HB1.out⟩
      | true =>
        have G0 := Lib.hid g0
        clear g0
        go_wp2_with fail
        refine (implControl p _ hp0.out HT1.out).mono ?_
        rintro e w2 ⟨rfl, hb⟩
        have HB2 := Lib.hid (HB1.out.trans (hb.mono HB1.out.size))
        clear hb
        go_wp2_with fail
        go_ret
        exact ⟨bool_end (by rw [HE.out]; simp [cpathB, slashB, G0.out]; omega), HB2.out⟩
    · go_wp2_with fail
      go_ret
      exact ⟨bool_end (by rw [HE.out]; simp [cpathB]; omega), HB1.out⟩
set_option maxHeartbeats 2000000 in
set_option maxRecDepth 100000 in
theorem specRequest_any (h p : ByteArray) (x y z u : Bool) (w : World) (hh : h.size ≤ 1048576) (hp : p.size ≤ 1048576) : Calls Tryd.prog 65 #[.agg #[.string h, .string p, .bool x, .bool y, .bool z, .bool u]] w fun e w' => e = .returned (.bool (reqB h p)) ∧ Below w.heap.size w w' := by
  have hb0 := (Below.refl w.heap.size w).alloc (Nat.le_refl _) (.cells #[.string h, .string p, .bool x, .bool y, .bool z, .bool u] 58)
  have HB0 := Lib.hid hb0
  have HP0 := Lib.hid (RqB.new w 58 h p x y z u)
  have hh0 : Hid (h.size ≤ maxLen) := Lib.hid (by unfold maxLen; omega)
  have hp0 : Hid (p.size ≤ maxLen) := Lib.hid (by unfold maxLen; omega)
  obtain ⟨c0, c1, c2, c3, c4, c5⟩ := HP0.out.at
  clear hb0
  cases gh : hostB h with
  | false =>
    have HE : Hid (reqB h p = false) := Lib.hid (by rw [reqB, gh]; rfl)
    have HH := Lib.hid (specHostL h (w.alloc (.cells #[.string h, .string p, .bool x, .bool y, .bool z, .bool u] 58)) hh)
    rw [gh] at HH
    clear gh
    go_enter Tryd.func65, Tryd.ntmps65
    go_wp2_with fail
    refine HH.out.mono ?_
    rintro e w1 ⟨rfl, hb⟩
    have HB1 := Lib.hid (HB0.out.trans (hb.mono HB0.out.size))
    clear hb
    go_wp2_with fail
    go_ret
    exact ⟨bool_end HE.out.symm, HB1.out⟩
  | true =>
    have HE : Hid (reqB h p = cpathB p) := Lib.hid (by rw [reqB, gh]; rfl)
    have HH := Lib.hid (specHostL h (w.alloc (.cells #[.string h, .string p, .bool x, .bool y, .bool z, .bool u] 58)) hh)
    rw [gh] at HH
    clear gh
    go_enter Tryd.func65, Tryd.ntmps65
    go_wp2_with fail
    refine HH.out.mono ?_
    rintro e w1 ⟨rfl, hb⟩
    have HB1 := Lib.hid (HB0.out.trans (hb.mono HB0.out.size))
    have HP1 := Lib.hid (HP0.out.stays hb)
    clear hb c0 c1 c2 c3 c4 c5
    obtain ⟨c0, c1, c2, c3, c4, c5⟩ := HP1.out.at
    by_cases h1 : 0 < p.size
    · cases g1 : (((p[0]'h1).toNat : Int) == 47) with
      | false =>
        have HS : Hid (slashB p = false) := Lib.hid (by unfold slashB; rw [rq_head h1]; exact g1)
        have HF : Hid (reqB h p = false) := Lib.hid (by rw [HE.out]; unfold cpathB; rw [HS.out]; simp)
        go_wp2_with fail
        go_ret
        exact ⟨bool_end HF.out.symm, HB1.out⟩
      | true =>
        have HS : Hid (slashB p = true) := Lib.hid (by unfold slashB; rw [rq_head h1]; exact g1)
        by_cases h2 : (p.size : Int) ≤ 60
        · have HF : Hid (reqB h p = allB p plainB) := Lib.hid (by
            rw [HE.out]
            unfold cpathB controlOK
            rw [HS.out, decide_eq_true (show p.size ≤ 60 by omega), decide_eq_true (show p.size ≤ 65536 by omega)]
            simp)
          go_wp2_with fail
          refine (specControl p _ hp0.out).mono ?_
          rintro e w' ⟨rfl, rfl⟩
          go_wp2_with fail
          go_ret
          exact ⟨bool_end HF.out.symm, HB1.out⟩
        · have HF : Hid (reqB h p = false) := Lib.hid (by rw [HE.out]; unfold cpathB; rw [decide_eq_false (show ¬ p.size ≤ 60 by omega)]; rfl)
          go_wp2_with fail
          go_ret
          exact ⟨bool_end HF.out.symm, HB1.out⟩
    · have HF : Hid (reqB h p = false) := Lib.hid (by
        rw [HE.out]
        unfold cpathB slashB
        have h0 : p.size = 0 := by omega
        have : p.data.toList = [] := List.eq_nil_of_length_eq_zero (by rw [← h0]; simp)
        rw [this]
        simp)
      go_wp2_with fail
      go_ret
      exact ⟨bool_end HF.out.symm, HB1.out⟩
set_option maxRecDepth 100000 in
theorem specReq_any (h p : ByteArray) (x y z u : Bool) (w : World) (hh : h.size ≤ 1048576) (hp : p.size ≤ 1048576) : Calls Tryd.prog 34 #[.agg #[.string h, .string p, .bool x, .bool y, .bool z, .bool u]] w fun e w' => e = .returned (.bool (reqB h p)) ∧ Below w.heap.size w w' := by
  have hb0 := (Below.refl w.heap.size w).alloc (Nat.le_refl _) (.cells #[.string h, .string p, .bool x, .bool y, .bool z, .bool u] 58)
  have HB0 := Lib.hid hb0
  obtain ⟨c0, c1, c2, c3, c4, c5⟩ := (RqB.new w 58 h p x y z u).at
  clear hb0
  go_enter Tryd.func34, Tryd.ntmps34
  go_wp2_with fail
  refine (specRequest_any h p x y z u _ hh hp).mono ?_
  rintro e w1 ⟨rfl, hb⟩
  have HB1 := Lib.hid (HB0.out.trans (hb.mono HB0.out.size))
  clear hb
  go_wp2_with fail
  go_ret
  exact ⟨rfl, HB1.out⟩
theorem toRequest_any (h p : ByteArray) (x y z u : Bool) (w : World) : Calls Tryd.prog 35 #[.agg #[.string h, .string p, .bool x, .bool y, .bool z, .bool u]] w fun e w' => e = .returned (.agg #[.string h, .string p, .bool x, .bool y, .bool z, .bool u]) ∧ Below w.heap.size w w' := by
  go_enter Tryd.func35, Tryd.ntmps35
  go_wp2_with fail
  refine bodyPost_ret (v := .agg #[.string h, .string p, .bool x, .bool y, .bool z, .bool u]) (by simp [results, Tryd.results35, go_sem]) rfl ⟨rfl, (((Below.refl _ _).alloc (Nat.le_refl _) _).alloc (by simp) _).alloc (by simp; omega) _⟩
theorem szRequest_any (h p : ByteArray) (x y z u : Bool) (L : Nat) (w : World) (hL : L ≤ 1048576) (hm : h.size ≤ maxLen) (hn : p.size ≤ maxLen) : Calls Tryd.prog 33 #[.agg #[.string h, .string p, .bool x, .bool y, .bool z, .bool u], .int .i64 L] w fun e w' => ∃ r : Int, e = .returned (.int .i64 r) ∧ (h.size + p.size ≤ L → r = ((L - (h.size + p.size) : Nat) : Int)) ∧ (L < h.size + p.size → r = -1) ∧ Below w.heap.size w w' := by
  unfold maxLen at hm hn
  by_cases h0 : L < h.size
  · go_enter Tryd.func33, Tryd.ntmps33
    go_wp2_with fail
    go_ret
    exact ⟨-1, rfl, fun h => by omega, fun _ => rfl, (Below.refl _ _).alloc (Nat.le_refl _) _⟩
  by_cases h1 : L < h.size + p.size
  · go_enter Tryd.func33, Tryd.ntmps33
    go_wp2_with fail
    go_ret
    exact ⟨-1, rfl, fun h => by omega, fun _ => rfl, (Below.refl _ _).alloc (Nat.le_refl _) _⟩
  · go_enter Tryd.func33, Tryd.ntmps33
    go_wp2_with fail
    go_ret
    exact ⟨_, congrArg (fun z : Int => Ending.returned (Value.int .i64 z)) (show (L : Int) - h.size - p.size = ((L - (h.size + p.size) : Nat) : Int) by omega), fun _ => rfl, fun h => by omega, (Below.refl _ _).alloc (Nat.le_refl _) _⟩
set_option maxHeartbeats 2000000 in
set_option maxRecDepth 100000 in
theorem walk_FnExactRequestOK (W : World) (h p : ByteArray) (x y z u : Bool) (hm : h.size ≤ maxLen) (hn : p.size ≤ maxLen) (hL : laidMetH Tryd.prog Rows.fnExactRequestOKRow.laid W) (_ : W.ShapedOpen Tryd.prog) :
    Calls Tryd.prog 8 #[.agg #[.string h, .string p, .bool x, .bool y, .bool z, .bool u]] W fun e w' => e = .returned (.bool true) ∧ Below W.heap.size W w' := by
  have HT := Lib.hid (tab_laid hL)
  clear hL
  have hb0 := (Below.refl W.heap.size W).alloc (Nat.le_refl _) (.cells #[.string h, .string p, .bool x, .bool y, .bool z, .bool u] 55)
  have P0 := RqB.new W 55 h p x y z u
  have HB0 := Lib.hid hb0
  have HP0 := Lib.hid P0
  obtain ⟨c0, c1, c2, c3, c4, c5⟩ := P0.at
  have HS := Lib.hid (szRequest_any h p x y z u 1048576 (W.alloc (.cells #[.string h, .string p, .bool x, .bool y, .bool z, .bool u] 55)) (Nat.le_refl _) hm hn)
  clear hb0 P0
  by_cases hw : h.size + p.size ≤ 1048576
  · have hwL : (0 : Int) ≤ ((1048576 - (h.size + p.size) : Nat) : Int) := by omega
    go_enter Tryd.func8, Tryd.ntmps8
    go_wp2_with fail
    refine HS.out.mono ?_
    rintro e w1 ⟨r, rfl, hr, _, hb⟩
    obtain rfl := hr hw
    have B1 := Lib.hid (HB0.out.trans (hb.mono HB0.out.size))
    have P1 := Lib.hid (HP0.out.stays hb)
    clear hr hb c0 c1 c2 c3 c4 c5
    obtain ⟨c0, c1, c2, c3, c4, c5⟩ := P1.out.at
    go_wp2_with fail
    refine (toRequest_any h p x y z u w1).mono ?_
    rintro e w2 ⟨rfl, hb⟩
    have B2 := Lib.hid (B1.out.trans (hb.mono B1.out.size))
    have P2 := Lib.hid (P1.out.stays hb)
    clear hb c0 c1 c2 c3 c4 c5
    go_wp2_with fail
    refine (specReq_any h p x y z u w2 (by omega) (by omega)).mono ?_
    rintro e w3 ⟨rfl, hb⟩
    have B3 := Lib.hid (B2.out.trans (hb.mono B2.out.size))
    have P3 := Lib.hid (P2.out.stays hb)
    clear hb
    obtain ⟨c0, c1, c2, c3, c4, c5⟩ := P3.out.at
    go_wp2_with fail
    refine (toRequest_any h p x y z u w3).mono ?_
    rintro e w4 ⟨rfl, hb⟩
    have B4 := Lib.hid (B3.out.trans (hb.mono B3.out.size))
    clear hb c0 c1 c2 c3 c4 c5
    go_wp2_with fail
    refine (implRequest_any h p x y z u w4 (by omega) (by omega) (HT.out.below B4.out)).mono ?_
    rintro e w5 ⟨rfl, hb⟩
    have B5 := Lib.hid (B4.out.trans (hb.mono B4.out.size))
    clear hb
    have hne : (reqB h p != reqB h p) = false := by simp
    go_wp2_with fail
    go_ret
    exact ⟨rfl, B5.out⟩
  · go_enter Tryd.func8, Tryd.ntmps8
    go_wp2_with fail
    refine HS.out.mono ?_
    rintro e w1 ⟨r, rfl, _, hr, hb⟩
    obtain rfl := hr (by omega)
    have B1 := Lib.hid (HB0.out.trans (hb.mono HB0.out.size))
    clear hr hb
    go_wp2_with fail
    go_ret
    exact ⟨rfl, B1.out⟩
end Go.Proofs.YtcaabnnkjnleeaaDoor
