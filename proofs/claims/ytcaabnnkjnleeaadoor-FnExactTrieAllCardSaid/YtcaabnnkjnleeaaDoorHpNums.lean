/- Numbers drawn out of a slice by the library's iterator, collected and sorted. No condition of its own. -/
import Derived.Test.YtcaabnnkjnleeaaDoorHpIds
import Derived.RangeFuncBox
import Derived.RangeFuncWrites
import Derived.RangeFuncLeaves
import Derived.Shelf.Abstract
import Derived.OwnWalkIn
import Derived.TacticsInMore
import Derived.LoopNIn
import Derived.LoopIn
import Derived.Maps.AppendAt
import Derived.Lib.SlKeysI
namespace Go.Proofs.YtcaabnnkjnleeaaDoor
open Go.ChangeShapes Go.WideShapes Go.ChangeAt Go.WideMaps Go.WideElems Go.RowKit Go.Shelf Go.Sort

attribute [local go_sem] Oper.semAt_some

theorem values_any (a : Option Addr) (len cap : Nat) (w : World) : Calls Tryd.prog 77 #[.slice a len cap] w fun e w' => e = .returned (.func (.func 101) #[] #[.pointer (some ⟨w.heap.size, 0, none⟩)]) ∧ w' = w.alloc (.cells #[.slice a len cap] 22) := by
  go_enter Tryd.func77, Tryd.ntmps77
  go_wp2
  go_ret
  exact ⟨rfl, rfl⟩
/-- v reads as these numbers, in a block below n₀. -/
def NumsB (n₀ : Nat) (w : World) (a : Option Addr) (zs : List Int) : Prop := 0 < zs.length → ∃ g off, a = some ⟨g, off, none⟩ ∧ g < n₀ ∧ ∀ j (hj : j < zs.length), w.cell? ⟨g, off + j, none⟩ = some (.int .i64 zs[j])
theorem NumsB.below {n₀ : Nat} {w w' : World} {a : Option Addr} {zs : List Int} (h : NumsB n₀ w a zs) (hb : Below n₀ w w') : NumsB n₀ w' a zs := fun h0 => by
  obtain ⟨g, off, rfl, hg, hc⟩ := h h0
  exact ⟨g, off, rfl, hg, fun j hj => (hb.cell (p := ⟨g, off + j, none⟩) hg).trans (hc j hj)⟩
set_option maxRecDepth 100000 in
set_option maxHeartbeats 2000000 in
theorem values_stops (n : Nat) (hn : 1 ≤ n) (Bv n₀ : Nat) (a : Option Addr) (cap : Nat) (zs : List Int) (hl : zs.length ≤ 1048576) (w : World) (hn₀ : n₀ ≤ w.heap.size)
    (hBv : w.cell? ⟨Bv, 0, none⟩ = some (.slice a zs.length cap)) (hrow : NumsB n₀ w a zs) :
    SeqStopsK Fence.wide n Tryd.prog 101 #[.pointer (some ⟨Bv, 0, none⟩)] (fun x : Int => #[.int .i64 x]) (Below n₀) (fun ys => ys = zs) (fun pre => pre <+: zs) zs.length w := fun l J Jx W hW _ _ hY h0 => by
  have c0 := cell_kept hW hBv
  have HR0 := Lib.hid (hrow.below (hW.mono hn₀))
  have HY := Lib.hid hY
  clear hBv hrow hY
  refine callsIn_of_wp Tryd.func101 rfl trivial ?_ rfl
  simp only [Tryd.ntmps101, List.size_toArray, List.length_cons, List.length_nil, Nat.reduceAdd, Nat.reduceSub, Array.replicate_succ, Array.replicate_zero, List.push_toArray, List.append_toArray, List.nil_append, List.cons_append]
  gi_wp2
  gi_loopw [7] (fun i wr => ∃ k : Nat, k ≤ zs.length ∧ i = .int .i64 k ∧ J (zs.take k) wr ∧ Below n₀ W wr) (fun i _ => zs.length - (intOf i).toNat)
  case atStart => exact ⟨0, Nat.zero_le _, rfl, h0, Below.refl _ _⟩
  case round =>
    obtain ⟨k, hk, rfl, hJs, hb⟩ := hrel
    have HB := Lib.hid hb
    clear hb
    by_cases hlt : k < zs.length
    · obtain ⟨g, off, rfl, hg, hc⟩ := HR0.out (by omega)
      obtain ⟨x, hx⟩ : ∃ x, zs[k] = x := ⟨_, rfl⟩
      have c1 := (HB.out.cell (p := ⟨g, off + k, none⟩) hg).trans (hc k hlt)
      rw [hx] at c1
      have HT : Hid (zs.take (k + 1) = zs.take k ++ [x]) := Lib.hid (by rw [List.take_succ_eq_append_getElem hlt, hx])
      have HL : Hid ((zs.take k).length < zs.length) := Lib.hid (by rw [List.length_take]; omega)
      have s1 : (k : Int) < zs.length := by omega
      clear hc hx
      obtain ⟨fn, tmps, assign, body, hy, hR⟩ := HY.out (zs.take k) x wr hJs HL.out
      have HR := Lib.hid hR
      clear hR
      gi_wp2
      refine HR.out.mono ?_
      rintro e W3 (⟨rfl, hJ3, hk3⟩ | ⟨rfl, hJx3⟩)
      · have HB3 := Lib.hid (HB.out.trans hk3)
        clear hk3
        gi_wp2
        go_roundw
        case rel => exact ⟨k + 1, by omega, by go_num, by rw [HT.out]; exact hJ3, HB3.out⟩
        case measure => simp [intOf]; omega
      · gi_wp2
        refine bodyPost_ret (results_none rfl _ _ _) rfl ?_
        exact ⟨⟨_, rfl⟩, .inr ⟨zs.take k ++ [x], by rw [← HT.out]; exact List.take_prefix _ _, hJx3⟩⟩
    · obtain rfl : k = zs.length := by omega
      rw [List.take_of_length_le (Nat.le_refl _)] at hJs
      have s1 : ¬ (zs.length : Int) < zs.length := by omega
      gi_wp2
      go_end0
      exact ⟨⟨_, rfl⟩, .inl hJs⟩
theorem info_int : (Tryd.prog.info? 3).map (fun i => (i.zero, i.size, i.bytes)) = some (some (.int .i64 0), 1, 8) := by kernel_rfl
set_option maxRecDepth 100000 in
set_option maxHeartbeats 2000000 in
theorem appendSeq_any (Bv : Nat) (a : Option Addr) (cap : Nat) (zs : List Int) (hl : zs.length ≤ 1048576) (w : World)
    (hBv : w.cell? ⟨Bv, 0, none⟩ = some (.slice a zs.length cap)) (hrow : NumsB w.heap.size w a zs) :
    Calls Tryd.prog 109 #[.slice none 0 0, .func (.func 101) #[] #[.pointer (some ⟨Bv, 0, none⟩)]] w fun e w' => ∃ v, e = .returned v ∧ w'.ownsRow w.heap.size 3 1 v zs.length (zs.map (Value.int .i64)) ∧ Below w.heap.size w w' := by
  obtain ⟨i0, hi, hz0, hz1, hz2⟩ := info_parts info_int
  refine (callsIn_wide (n := 6)).1 ?_
  refine callsIn_of_wp_marks Tryd.func109 rfl trivial ?_ rfl
  simp only [Tryd.ntmps109, List.size_toArray, List.length_cons, List.length_nil, Nat.reduceAdd, Nat.reduceSub, Array.replicate_succ, Array.replicate_zero, List.push_toArray, List.append_toArray, List.nil_append, List.cons_append]
  gi_wp2
  have bO := Boxed.new w 22 (.slice none 0 0)
  have hB0 : Below w.heap.size w (w.alloc (.cells #[.slice none 0 0] 22)) := (Below.refl _ w).alloc (Nat.le_refl _) _
  have hBv2 := cell_kept hB0 hBv
  refine wpIn_rangeFunc_ownG rfl (by decide) (gf := 101) (lb := #[.pointer (some ⟨Bv, 0, none⟩)]) rfl trivial (enters_of Tryd.func101 (by kernel_rfl) rfl)
    (values_stops 5 (by decide) Bv w.heap.size a cap zs hl _ (by simp) hBv2 (hrow.below hB0)) belowK_t (belowK_b (by simp)) (Below.refl _ _) (fun _ => rfl)
    (fun pre W => (∃ v, Boxed W w.heap.size 22 v ∧ W.ownsRow w.heap.size 3 1 v pre.length (pre.map (Value.int .i64)) ∧ (v = .slice none 0 0 ↔ pre = [])) ∧ Below w.heap.size w W)
    (fun _ _ _ => False)
    (OwnFrom.and (Own.from (holdsRow_own w.heap.size w.heap.size 22 3 1 (fun pre => pre.length) (fun pre => pre.map (Value.int .i64)) (fun pre v => v = .slice none 0 0 ↔ pre = [])) _) (ownFrom_below (Nat.le_refl _) (by simp)))
    (fun _ _ _ _ _ hs _ _ => hs)
    ⟨⟨_, bO, World.ownsRow_nil _ _ _ _, by simp⟩, hB0⟩
    (fun x => { tmps := #[.slice none 0 0, .func (.func 101) #[] #[.pointer (some ⟨Bv, 0, none⟩)], .pointer (some ⟨w.heap.size, 0, none⟩), undef, .slice none 0 0, .int .i64 x, .func (.func 101) #[] #[.pointer (some ⟨Bv, 0, none⟩)], .int .i64 x, undef, undef, undef, undef, undef], defers := [] }) ?assign ?body ?done ?stop
  case assign =>
    intro l x W K hK
    gi_wp2
    exact hK
  case body =>
    rintro l pre x W ⟨⟨v, hv, hrow, hnil⟩, hB⟩ hlt
    have hc := hv.cell
    gi_wp2_with (gi_at_builtin; refine wpListIn_append_own _ rfl _ _ 22 rfl w.heap.size 3 i0 (.int .i64 0) 1 8 Tryd.underlying22 hi hz0 hz1 hz2 rfl (by decide) _ _ _ rfl (hrow.alloc _) ⟨W.heap.size, 0, none⟩ 1 1 [.int .i64 x] rfl rfl (cell_one_new _ _ _) (by simp [Value.oneCell']) (by unfold maxLen; omega) (by omega) (by have := hB.size; simp; omega) ?_; intro v' w1 hown' hgrow _; obtain ⟨g', cap', rfl⟩ := ownsRow_succ hown'; obtain ⟨hv1, hv2, hr2, hk2, hb2⟩ := hv.appended (by decide) hrow hB.size (Nat.le_refl _) hown' hgrow; have hc1 := hv1.cell; have hf1 := hv1.frozen)
    exact ⟨hk2.from _, hb2, ⟨_, hv2, by simpa using hr2, by simp⟩, hB.trans hb2⟩
  case done =>
    rintro D ys W hD rfl ⟨⟨v, hv, hrow, hnil⟩, hB⟩ hK
    have hc := hv.cell
    gi_wp2
    refine ⟨by simp, .inl ⟨_, _, rfl, run_takeDeferred hK, ?_⟩⟩
    exact ⟨_, results_tmp rfl _ _ _, v, rfl, ownsRow_putObj hrow _ hK rfl, hB.trans (belowK_b (w := w) (Nat.le_refl _) W D _ _ (by simp at hD; omega) hK rfl rfl)⟩
  case stop =>
    rintro D c pre W _ _ h _
    exact h.elim
theorem collect_any (Bv : Nat) (a : Option Addr) (cap : Nat) (zs : List Int) (hl : zs.length ≤ 1048576) (w : World)
    (hBv : w.cell? ⟨Bv, 0, none⟩ = some (.slice a zs.length cap)) (hrow : NumsB w.heap.size w a zs) :
    Calls Tryd.prog 99 #[.func (.func 101) #[] #[.pointer (some ⟨Bv, 0, none⟩)]] w fun e w' => ∃ v, e = .returned v ∧ w'.ownsRow w.heap.size 3 1 v zs.length (zs.map (Value.int .i64)) ∧ Below w.heap.size w w' := by
  go_enter Tryd.func99, Tryd.ntmps99
  go_wp2_with fail
  refine (appendSeq_any Bv a cap zs hl w hBv hrow).mono ?_
  rintro e w1 ⟨v, rfl, h1, h2⟩
  go_wp2_with fail
  go_ret
  exact ⟨v, rfl, h1, h2⟩
theorem row_holds {w : World} {base : Nat} {e : TypeId} {v : Value} {zs : List Int} (h : w.ownsRow base e 1 v zs.length (zs.map (Value.int .i64))) : (v = .slice none 0 0 ∧ zs.length = 0) ∨ ∃ g cap, v = .slice (some ⟨g, 0, none⟩) zs.length cap ∧ base ≤ g ∧ g < w.heap.size ∧ Holds (Value.int .i64) w g 0 zs.toArray := by
  rcases h.2 with ⟨rfl, hz⟩ | ⟨g, cap, cur, rfl, hbase, hgb, r1, r2, r3, r4⟩
  · exact Or.inl ⟨rfl, hz⟩
  · exact Or.inr ⟨g, cap, rfl, hbase, (Array.getElem?_eq_some_iff.1 hgb).1, holds_of_block_i hgb (by simpa using r4)⟩
def sortI (zs : List Int) : List Int := zs.mergeSort fun x y => decide (x ≤ y)
theorem sortI_length (zs : List Int) : (sortI zs).length = zs.length := by simp [sortI]
theorem below_sorted {w : World} {g n B : Nat} {os : Array Obj} (d : Array Int) (hg : B ≤ g) (hB : B ≤ w.heap.size) : Below B w (grow (putRow (Value.int .i64) (Sort.ahead w n) g 0 d) os) :=
  (Below.refl B w).grown (grownBy_sorted_i d) hB (fun k e => by cases e; exact hg)
theorem nums_sorted {w : World} {g n cap : Nat} {os : Array Obj} {zs ts : List Int} (hg : g < w.heap.size) (hl : ts.length = zs.length) (h : Holds (Value.int .i64) w g 0 zs.toArray) : NumsIn (grow (putRow (Value.int .i64) (Sort.ahead w n) g 0 ts.toArray) os) (.slice (some ⟨g, 0, none⟩) ts.length cap) ts := by
  have H2 : Holds (Value.int .i64) (grow (putRow (Value.int .i64) (Sort.ahead w n) g 0 ts.toArray) os) g 0 ts.toArray :=
    holds_grow _ _ os g 0 ts.toArray (by simpa using hg) (holds_putRow _ _ g 0 zs.toArray ts.toArray (holds_ahead _ w n g 0 zs.toArray h) (by simpa using hl))
  refine ⟨_, _, rfl, fun h0 => ⟨g, 0, rfl, World.block_lt_of_cell? _ _ (H2 0 (by simpa using h0)).1, fun j hj => ?_⟩⟩
  have := (H2 j (by simpa using hj)).1
  rw [this]
  simp [hj]
theorem sorted_any (Bv : Nat) (a : Option Addr) (cap : Nat) (zs : List Int) (hl : zs.length ≤ 1048576) (w : World)
    (hBv : w.cell? ⟨Bv, 0, none⟩ = some (.slice a zs.length cap)) (hrow : NumsB w.heap.size w a zs) :
    Calls Tryd.prog 76 #[.func (.func 101) #[] #[.pointer (some ⟨Bv, 0, none⟩)]] w fun e w' => ∃ v, e = .returned v ∧ NumsIn w' v (sortI zs) ∧ Below w.heap.size w w' := by
  go_enter Tryd.func76, Tryd.ntmps76
  go_wp2_with fail
  refine (collect_any Bv a cap zs hl w hBv hrow).mono ?_
  rintro e w1 ⟨v, rfl, h1, hb⟩
  have HB := Lib.hid hb
  clear hb
  rcases row_holds h1 with ⟨rfl, hz⟩ | ⟨g, cap2, rfl, hbase, hg, hH⟩
  · have HZ : Hid (sortI zs = []) := Lib.hid (by rw [List.length_eq_zero_iff.1 hz]; simp [sortI])
    clear h1 hz
    go_wp2_with fail
    refine (Tryd.slices_Sort_int_none none 0 _).mono ?_
    rintro e w2 ⟨rfl, rfl⟩
    go_wp2_with fail
    go_ret
    exact ⟨_, rfl, by rw [HZ.out]; exact ⟨none, 0, rfl, fun h => absurd h (by simp)⟩, HB.out⟩
  · have HH := Lib.hid hH
    have HL : Hid (zs.length < 4611686018427387904) := Lib.hid (by omega)
    clear h1 hH
    go_wp2_with fail
    refine (Tryd.slices_Sort_int g 0 cap2 zs _ HH.out hg HL.out).mono ?_
    rintro e w2 ⟨rfl, n, os, hw2⟩
    have HB2 : Hid (Below w.heap.size w w2) := Lib.hid (by rw [hw2]; exact HB.out.trans (below_sorted _ hbase HB.out.size))
    have HN : Hid (NumsIn w2 (.slice (some ⟨g, 0, none⟩) zs.length cap2) (sortI zs)) := Lib.hid (by
      rw [hw2]
      have := nums_sorted (cap := cap2) (n := n) (os := os) (ts := sortI zs) hg (sortI_length zs) HH.out
      rw [sortI_length] at this
      exact this)
    clear hw2
    go_wp2_with fail
    go_ret
    exact ⟨_, rfl, HN.out, HB2.out⟩
set_option maxRecDepth 100000 in
/-- A number that is not within bounds: none is found. -/
theorem indexNoId_any (v : Value) (zs : List Int) (w : World) (hl : zs.length ≤ 1048576) (hv : NumsIn w v zs) : Calls Tryd.prog 102 #[v, .func (.func 79) #[] #[]] w fun e w' => w = w' ∧ ∃ r : Int, e = .returned (.int .i64 r) ∧ decide (r ≥ 0) = !(zs.all fun i => inRange i 1 1000000000000) := by
  obtain ⟨a, cap, rfl, hx⟩ := hv
  have HX := Lib.hid hx
  clear hx
  go_enter Tryd.func102, Tryd.ntmps102
  go_wp2
  go_loopw [8] (fun i wr => ∃ k : Nat, k ≤ zs.length ∧ i = .int .i64 k ∧ w = wr ∧ ∀ m (h : m < zs.length), m < k → inRange zs[m] 1 1000000000000 = true) (fun i _ => zs.length - (intOf i).toNat)
  case atStart => exact ⟨0, Nat.zero_le _, rfl, rfl, fun m _ h => by omega⟩
  case round =>
    obtain ⟨k, hk, rfl, rfl, hb⟩ := hrel
    have HB := Lib.hid hb
    clear hb
    by_cases hlt : k < zs.length
    · obtain ⟨g, off, rfl, hg, hcl⟩ := HX.out (by omega)
      obtain ⟨x, hx⟩ : ∃ x, zs[k] = x := ⟨_, rfl⟩
      have c1 := hcl k hlt
      rw [hx] at c1
      have HXX := Lib.hid hx
      have s1 : (k : Int) < zs.length := by omega
      clear hcl hx
      go_wp2_with fail
      refine (noId_any x _).mono ?_
      rintro e w1 ⟨rfl, rfl⟩
      cases hr : inRange x 1 1000000000000 with
      | false =>
        have HR := Lib.hid hr
        clear hr
        go_wp2_with fail
        go_ret
        refine ⟨by trivial, _, rfl, ?_⟩
        have e1 : (zs.all fun i => inRange i 1 1000000000000) = false := by
          rw [List.all_eq_false]
          exact ⟨x, by rw [← HXX.out]; exact List.getElem_mem hlt, by rw [HR.out]; exact Bool.false_ne_true⟩
        rw [e1]
        simp
      | true =>
        have HR := Lib.hid hr
        clear hr
        go_wp2_with fail
        go_roundw
        case rel =>
          refine ⟨k + 1, by omega, by go_num, by trivial, fun m h hm => ?_⟩
          by_cases e : m = k
          · subst e
            rw [HXX.out]
            exact HR.out
          · exact HB.out m h (by omega)
        case measure => simp [intOf]; omega
    · obtain rfl : k = zs.length := by omega
      go_wp2_with fail
      go_ret
      refine ⟨by trivial, -1, rfl, ?_⟩
      have e1 : (zs.all fun i => inRange i 1 1000000000000) = true := by
        rw [List.all_eq_true]
        intro x hx
        obtain ⟨m, hm, rfl⟩ := List.mem_iff_getElem.1 hx
        exact HB.out m hm hm
      rw [e1]
      simp
theorem containsNoId_any (v : Value) (zs : List Int) (w : World) (hl : zs.length ≤ 1048576) (hv : NumsIn w v zs) : Calls Tryd.prog 78 #[v, .func (.func 79) #[] #[]] w fun e w' => e = .returned (.bool (!(zs.all fun i => inRange i 1 1000000000000))) ∧ w = w' := by
  have hv' := hv
  obtain ⟨a, cap, rfl, _⟩ := hv'
  have HV := Lib.hid hv
  clear hv
  go_enter Tryd.func78, Tryd.ntmps78
  go_wp2_with fail
  refine (indexNoId_any _ zs w hl HV.out).mono ?_
  rintro e w1 ⟨rfl, r, rfl, hr⟩
  go_wp2_with fail
  go_ret
  exact ⟨rfl, by trivial⟩
theorem numsB_in (zs : List Int) : numsB zs = (riseB (sortI zs) && zs.all fun i => inRange i 1 1000000000000) := rfl
theorem NumsIn.under {w : World} {a : Option Addr} {len cap : Nat} {zs : List Int} (h : NumsIn w (.slice a len cap) zs) : len = zs.length ∧ NumsB w.heap.size w a zs := by
  obtain ⟨a', cap', e, h⟩ := h
  injection e with e1 e2 e3
  subst e1
  exact ⟨e2, h⟩
set_option maxRecDepth 100000 in
theorem idsOK_any (v : Value) (zs : List Int) (w : World) (hl : zs.length ≤ 1048576) (hv : NumsIn w v zs) : Calls Tryd.prog 46 #[v] w fun e w' => e = .returned (.bool (numsB zs)) ∧ Below w.heap.size w w' := by
  rw [numsB_in]
  obtain ⟨a, len, cap, rfl⟩ : ∃ a len cap, v = .slice a len cap := by
    obtain ⟨a, cap, e, _⟩ := hv
    exact ⟨a, _, cap, e⟩
  obtain ⟨rfl, hu⟩ := hv.under
  have HU := Lib.hid hu
  have HV := Lib.hid hv
  have HB0 := Lib.hid ((Below.refl w.heap.size w).alloc (Nat.le_refl _) (.cells #[.slice a zs.length cap] 22))
  have hnew := (Boxed.new w 22 (.slice a zs.length cap)).cell
  have HC := Lib.hid hnew
  clear hv hu hnew
  go_enter Tryd.func46, Tryd.ntmps46
  go_wp2_with fail
  refine (values_any a zs.length cap w).mono ?_
  rintro e w1 ⟨rfl, hw1⟩
  have HW1 := Lib.hid hw1
  have HB1 : Hid (Below w.heap.size w w1) := Lib.hid (by rw [hw1]; exact HB0.out)
  have hc1 : w1.cell? ⟨w.heap.size, 0, none⟩ = some (.slice a zs.length cap) := by rw [hw1]; exact HC.out
  have HU1 : Hid (NumsB w1.heap.size w1 a zs) := Lib.hid fun h0 => by
    obtain ⟨g, off, rfl, hg, hc⟩ := HU.out h0
    exact ⟨g, off, rfl, Nat.lt_of_lt_of_le hg HB1.out.size, fun j hj => (HB1.out.cell (p := ⟨g, off + j, none⟩) hg).trans (hc j hj)⟩
  have HC1 := Lib.hid hc1
  clear hw1 hc1
  go_wp2_with fail
  refine (sorted_any w.heap.size a cap zs hl w1 HC1.out HU1.out).mono ?_
  rintro e w2 ⟨u, rfl, hn, hb⟩
  have HB2 := Lib.hid (HB1.out.trans (hb.mono HB1.out.size))
  obtain ⟨a2, cap2, rfl, _⟩ := id hn
  have HN := Lib.hid hn
  clear hn hb
  go_wp2_with fail
  refine (rising_any _ (sortI zs) w2 (by rw [sortI_length]; exact hl) HN.out).mono ?_
  rintro e w3 ⟨rfl, hb⟩
  have HB3 := Lib.hid (HB2.out.trans (hb.mono HB2.out.size))
  clear hb
  cases hr : riseB (sortI zs) with
  | false =>
    go_wp2_with fail
    go_ret
    exact ⟨bool_end (by rw [hr]; rfl), HB3.out⟩
  | true =>
    go_wp2_with fail
    refine (containsNoId_any _ zs w3 hl (HV.out.below HB3.out)).mono ?_
    rintro e w4 ⟨rfl, rfl⟩
    go_wp2_with fail
    go_ret
    exact ⟨bool_end (by rw [hr]; simp), HB3.out⟩
end Go.Proofs.YtcaabnnkjnleeaaDoor
