/- NewJar of the program and of the model: what they answer. No condition of its own. -/
import Derived.Test.YtcaabnnkjnleeaaDoorRules
import Derived.Test.YtcaabnnkjnleeaaDoorClone
import Derived.Test.YtcaabnnkjnleeaaDoorWithin
import Derived.Test.YtcaabnnkjnleeaaDoorAppGen
namespace Go.Proofs.YtcaabnnkjnleeaaDoor
open Go.ChangeShapes Go.WideShapes Go.ChangeAt Go.WideMaps Go.WideElems Go.RowKit

set_option maxRecDepth 100000 in
theorem limits_any (a b : Int) (w : World) : Calls Tryd.prog 58 #[.int .i64 a, .int .i64 b] w fun e w' => e = .returned (.bool (inRange a 1 12 && inRange b 1 12)) ∧ w = w' := by
  have HA := Lib.hid (isWithin_is a 1 12)
  have HB := Lib.hid (isWithin_is b 1 12)
  obtain ⟨p, hp⟩ : ∃ p, inRange a 1 12 = p := ⟨_, rfl⟩
  obtain ⟨q, hq⟩ : ∃ q, inRange b 1 12 = q := ⟨_, rfl⟩
  rw [hp] at HA
  rw [hp, hq]
  rw [hq] at HB
  clear hp hq
  cases p with
  | false =>
    go_enter Tryd.func58, Tryd.ntmps58
    go_wp2_with (go_at_call 87; refine (HA.out _).mono ?_; rintro e w1 ⟨rfl, rfl⟩)
    go_ret
    exact ⟨rfl, rfl⟩
  | true =>
    go_enter Tryd.func58, Tryd.ntmps58
    go_wp2_with (go_at_call 87; first | (with_reducible refine (HA.out _).mono ?_; rintro e w1 ⟨rfl, rfl⟩) | (with_reducible refine (HB.out _).mono ?_; rintro e w1 ⟨rfl, rfl⟩))
    go_ret
    exact ⟨rfl, rfl⟩
set_option maxRecDepth 100000 in
set_option maxHeartbeats 1000000 in
theorem cloneTexts_any (v : Value) (B : Nat) (ps : List (List UInt8)) (w : World) (hl : ps.length ≤ 1048576) (hm : ∀ x ∈ ps, x.length ≤ 65536) (hv : RowT w B v ps) : Calls Tryd.prog 59 #[v] w fun e w' => ∃ u, e = .returned u ∧ RowC w' w.heap.size u ps ∧ Below w.heap.size w w' := by
  obtain ⟨a, cap, rfl, hx⟩ := hv
  have HX := Lib.hid hx
  have HMX := Lib.hid hm
  clear hx hm
  have hmk := run_make_row' (P := Tryd.prog) 42 9 (.string ByteArray.empty) 16 Tryd.underlying42 info_string rfl .i64 .i64 ps.length (by omega) (by omega)
  go_enter Tryd.func59, Tryd.ntmps59
  go_wp2
  clear hmk
  go_loopw [11] (fun i wr => CopyRel w ps i wr) (fun i _ => ps.length - (intOf i).toNat)
  case atStart =>
    refine ⟨0, Nat.zero_le _, rfl, fun t ht => ?_, fun t _ ht => by omega, fun t ht => ?_, (Below.refl _ _).alloc (Nat.le_refl _) _, by simp⟩
    · exact made_free w _ _ _ t
    · exact made_cell w _ _ _ t ht
  case round =>
    obtain ⟨j, hj, rfl, hf, hmm, hc, hb, hz⟩ := hrel
    have HF := Lib.hid hf
    have HM := Lib.hid hmm
    have HC := Lib.hid hc
    have HB := Lib.hid hb
    clear hf hmm hc hb
    by_cases hlt : j < ps.length
    · obtain ⟨g, rfl, _, hlb, _, hcell⟩ := HX.out (by omega)
      obtain ⟨u, hu⟩ : ∃ u : ByteArray, strV ps[j] = .string u := ⟨_, rfl⟩
      have HU := Lib.hid hu
      have HUS : Hid (u.size ≤ 65536) := Lib.hid (by
        have h1 := HMX.out _ (List.getElem_mem hlt)
        have h2 : u = tOf ps[j] := by
          have := HU.out
          injection this with e
          exact e.symm
        rw [h2, tOf_size]
        exact h1)
      have c1 : wr.cell? ⟨g, j, none⟩ = some (.string u) := by rw [← hu]; exact (HB.out.cell (p := ⟨g, j, none⟩) hlb).trans (hcell j hlt)
      obtain ⟨old, hold⟩ := HC.out j hlt
      have HO := Lib.hid hold
      have hfz := HF.out j hlt
      have s1 : (j : Int) < ps.length := by omega
      clear hcell hu hold
      go_wp2_with (go_at_call 88; refine (clone_any u _ HUS.out).mono ?_; rintro e w1 ⟨rfl, hb1⟩; have HB1 := Lib.hid hb1; have hcell1 : w1.cell? ⟨w.heap.size, j, none⟩ = some old := (hb1.cell (p := ⟨w.heap.size, j, none⟩) hz).trans HO.out; have hfz1 : w1.frozen? ⟨w.heap.size, j, none⟩ = false := (hb1.frozen (p := ⟨w.heap.size, j, none⟩) hz).trans (HF.out j hlt); clear hb1)
      have hz1 := HB1.out.size
      go_roundw
      case rel =>
        refine ⟨j + 1, by omega, by go_num, fun t ht => ?_, fun t ht htj => ?_, fun t ht => ?_, (HB.out.trans (HB1.out.mono HB.out.size)).setCell (p := ⟨w.heap.size, j, none⟩) (Nat.le_refl _) _, by simp [World.setCell]; omega⟩
        · rw [World.frozen?_setCell]
          exact (HB1.out.frozen (p := ⟨w.heap.size, t, none⟩) hz).trans (HF.out t ht)
        · by_cases e : t = j
          · subst e
            rw [HU.out]
            exact World.cell?_setCell_same _ _ _ hcell1
          · rw [World.cell?_setCell_other _ _ _ _ (fun h => e (by injection h with _ h2; exact h2.symm))]
            exact (HB1.out.cell (p := ⟨w.heap.size, t, none⟩) hz).trans (HM.out t ht (by omega))
        · by_cases e : t = j
          · subst e
            exact ⟨_, World.cell?_setCell_same _ _ _ hcell1⟩
          · rw [World.cell?_setCell_other _ _ _ _ (fun h => e (by injection h with _ h2; exact h2.symm))]
            obtain ⟨u2, hu2⟩ := HC.out t ht
            exact ⟨u2, (HB1.out.cell (p := ⟨w.heap.size, t, none⟩) hz).trans hu2⟩
      case measure => simp [intOf]; omega
    · obtain rfl : j = ps.length := by omega
      have s1 : ¬ (ps.length : Int) < ps.length := by omega
      go_wp2
      go_ret
      exact ⟨_, rfl, ⟨⟨_, _, rfl, fun _ => ⟨_, rfl, Nat.le_refl _, hz, HF.out, fun t ht => HM.out t ht ht⟩⟩, _, _, rfl, Nat.le_refl _, by unfold maxLen; omega⟩, HB.out⟩
theorem one_strs (ps : List (List UInt8)) : ∀ u ∈ ps.map strV, u.oneCell' = true := by
  intro u hu
  obtain ⟨x, _, rfl⟩ := List.mem_map.1 hu
  rfl
theorem rowC_own {w : World} {B : Nat} {v : Value} {ps : List (List UInt8)} (h : w.ownsRow B 9 1 v ps.length (ps.map strV)) : RowC w B v ps := by
  obtain ⟨hl, ⟨rfl, hz⟩ | ⟨g, cap, cur, rfl, hb, hg, h1, h2, h3, h4⟩⟩ := h
  · rw [List.eq_nil_of_length_eq_zero hz]
    exact ⟨RowT.empty _ _ _ _, _, _, rfl, Nat.le_refl _, Nat.zero_le _⟩
  · have hlt := (Array.getElem?_eq_some_iff.1 hg).1
    refine ⟨⟨_, cap, rfl, fun _ => ⟨g, rfl, hb, hlt, fun j hj => frozen_none hg j, fun j hj => ?_⟩⟩, _, _, rfl, h1, h2⟩
    have := src_own (w := w) (B := B) (e := 9) (n := ps.length) (g := g) (cap := cap) (xs := ps.map strV) ⟨hl, Or.inr ⟨g, cap, cur, rfl, hb, hg, h1, h2, h3, h4⟩⟩ j (strV ps[j]) (by simp [hj])
    rw [Go.WideShapes.add_plain] at this
    simpa using this
theorem jar_cells {w : World} {g : Nat} {x0 x1 x2 x3 x4 x5 : Value} (h : w.heap[g]? = some (.cells #[x0, x1, x2, x3, x4, x5] 46 (0, 0))) : w.cell? ⟨g, 0, none⟩ = some x0 ∧ w.cell? ⟨g, 1, none⟩ = some x1 ∧ w.cell? ⟨g, 2, none⟩ = some x2 ∧ w.cell? ⟨g, 3, none⟩ = some x3 ∧ w.cell? ⟨g, 4, none⟩ = some x4 ∧ w.cell? ⟨g, 5, none⟩ = some x5 := by
  refine ⟨?_, ?_, ?_, ?_, ?_, ?_⟩ <;> simp [World.cell?, h]
theorem jar_put {w : World} {g : Nat} {x0 x1 x2 x3 x4 x5 : Value} (h : w.heap[g]? = some (.cells #[x0, x1, x2, x3, x4, x5] 46 (0, 0))) (y0 y1 y2 y3 y4 y5 : Value) : ((((((w.setCell ⟨g, 0, none⟩ y0).setCell ⟨g, 1, none⟩ y1).setCell ⟨g, 2, none⟩ y2).setCell ⟨g, 3, none⟩ y3).setCell ⟨g, 4, none⟩ y4).setCell ⟨g, 5, none⟩ y5).heap[g]? = some (.cells #[y0, y1, y2, y3, y4, y5] 46 (0, 0)) := by
  simp only [World.setCell, Array.getElem?_modify, if_true, h, Option.map_some]
  rfl
theorem jar_below {w wr : World} {g C : Nat} (hb : Below C w wr) (hB : C ≤ g) (y0 y1 y2 y3 y4 y5 : Value) : Below C w ((((((wr.setCell ⟨g, 0, none⟩ y0).setCell ⟨g, 1, none⟩ y1).setCell ⟨g, 2, none⟩ y2).setCell ⟨g, 3, none⟩ y3).setCell ⟨g, 4, none⟩ y4).setCell ⟨g, 5, none⟩ y5) :=
  (((((hb.setCell (p := ⟨g, 0, none⟩) hB y0).setCell (p := ⟨g, 1, none⟩) hB y1).setCell (p := ⟨g, 2, none⟩) hB y2).setCell (p := ⟨g, 3, none⟩) hB y3).setCell (p := ⟨g, 4, none⟩) hB y4).setCell (p := ⟨g, 5, none⟩) hB y5
theorem rowC_put {w : World} {g B : Nat} {v : Value} {ps : List (List UInt8)} (h : RowC w B v ps) (hg : g < B) (y0 y1 y2 y3 y4 y5 : Value) : RowC ((((((w.setCell ⟨g, 0, none⟩ y0).setCell ⟨g, 1, none⟩ y1).setCell ⟨g, 2, none⟩ y2).setCell ⟨g, 3, none⟩ y3).setCell ⟨g, 4, none⟩ y4).setCell ⟨g, 5, none⟩ y5) B v ps := by
  refine ⟨?_, h.2⟩
  have key : ∀ (w : World) (i : Nat) (y : Value), RowT w B v ps → RowT (w.setCell ⟨g, i, none⟩ y) B v ps := fun w i y h => by
    obtain ⟨a, cap, rfl, hx⟩ := h
    refine ⟨a, cap, rfl, fun h0 => ?_⟩
    obtain ⟨k, rfl, h1, h2, h3, h4⟩ := hx h0
    refine ⟨k, rfl, h1, by simp [World.setCell]; omega, fun j hj => by rw [World.frozen?_setCell]; exact h3 j hj, fun j hj => ?_⟩
    rw [World.cell?_setCell_other _ _ _ _ (fun e => by injection e with e1; omega)]
    exact h4 j hj
  exact key _ _ _ (key _ _ _ (key _ _ _ (key _ _ _ (key _ _ _ (key _ _ _ h.1)))))
set_option maxRecDepth 100000 in
set_option maxHeartbeats 1000000 in
theorem l09New_any (v : Value) (B : Nat) (ps : List (List UInt8)) (a b : Int) (w : World) (hl : ps.length ≤ 4096) (hv : RowC w B v ps) : Calls Tryd.prog 56 #[v, .int .i64 a, .int .i64 b] w fun e w' => ∃ u x y, e = .returned (.agg #[u, .int .i64 a, .int .i64 b, .int .i64 0, .int .i64 1, .slice x 0 y]) ∧ RowC w' w.heap.size u ps ∧ Below w.heap.size w w' := by
  obtain ⟨⟨a0, cap0, rfl, hx⟩, _⟩ := hv
  obtain ⟨i0, hi0, hz0, hz1, hz2⟩ := info_parts info_string
  have HX := Lib.hid hx
  clear hx
  have BA : Hid (Below w.heap.size w (w.alloc (.cells #[.slice none 0 0, .int .i64 0, .int .i64 0, .int .i64 0, .int .i64 0, .slice none 0 0] 46))) := Lib.hid ((Below.refl _ _).alloc (Nat.le_refl _) _)
  have JA : Hid ((w.alloc (.cells #[.slice none 0 0, .int .i64 0, .int .i64 0, .int .i64 0, .int .i64 0, .slice none 0 0] 46)).heap[w.heap.size]? = some (.cells #[.slice none 0 0, .int .i64 0, .int .i64 0, .int .i64 0, .int .i64 0, .slice none 0 0] 46 (0, 0))) := Lib.hid (heap_alloc_new _ _)
  obtain ⟨wA, hwA⟩ : ∃ wA, w.alloc (.cells #[.slice none 0 0, .int .i64 0, .int .i64 0, .int .i64 0, .int .i64 0, .slice none 0 0] 46) = wA := ⟨_, rfl⟩
  have hlt0 : w.heap.size < wA.heap.size := by rw [← hwA]; simp
  rw [hwA] at BA JA
  have HWA := Lib.hid hwA
  clear hwA
  have hsrc : Hid ((ps.length = 0 ∧ ps.map strV = []) ∨ ((ps.map strV).length = ps.length * 1 ∧ ∃ ad, a0 = some ad ∧ ∀ j u, (ps.map strV)[j]? = some u → (wA.alloc (.cells #[] 9)).cell? (ad.add j) = some u)) := Lib.hid (by
    by_cases hn : 0 < ps.length
    · right
      obtain ⟨g, rfl, _, hg2, _, hc⟩ := HX.out hn
      refine ⟨by simp, _, rfl, fun j u hj => ?_⟩
      have hjl : j < ps.length := by
        have := (List.getElem?_eq_some_iff.1 hj).1
        simpa using this
      have hu : u = strV ps[j] := by
        simp [hjl] at hj
        exact hj.symm
      rw [hu, Go.WideShapes.add_plain, Nat.zero_add]
      exact ((BA.out.alloc (by omega) _).cell (p := ⟨g, j, none⟩) (by show g < w.heap.size; omega)).trans (hc j hjl)
    · left
      have : ps = [] := List.eq_nil_of_length_eq_zero (by omega)
      subst this
      exact ⟨rfl, rfl⟩)
  have HOW : Hid ((wA.alloc (.cells #[] 9)).ownsRow wA.heap.size 9 1 (.slice (some ⟨wA.heap.size, 0, none⟩) 0 0) 0 []) := Lib.hid ⟨rfl, .inr ⟨wA.heap.size, 0, #[], rfl, Nat.le_refl _, heap_alloc_new _ _, Nat.le_refl _, Nat.zero_le _, rfl, rfl⟩⟩
  go_enter Tryd.func56, Tryd.ntmps56
  go_upto_region 1 with fail
  rw [HWA.out]
  go_wp2_with (at_builtin; refine wpList_append_gen rfl (.tmp 7) (.tmp 8) 42 rfl wA.heap.size 9 i0 _ 1 16 Tryd.underlying42 hi0 hz0 hz1 hz2 rfl (by decide) (.slice (some ⟨wA.heap.size, 0, none⟩) 0 0) 0 [] rfl HOW.out a0 ps.length cap0 (ps.map strV) rfl hsrc.out (one_strs _) (by unfold maxLen; omega) (by omega) (by simp) ?_; intro b1 cp1 w1 hown hgrow; have BI : Hid (Below wA.heap.size wA w1) := Lib.hid (al_grow ((Below.refl _ _).alloc (Nat.le_refl _) _) hgrow (Nat.le_refl _)); have HO := Lib.hid hown; have JB := Lib.hid (((BI.out.alloc BI.out.size (.cells #[] 97)).block w.heap.size hlt0).trans JA.out); clear hown hgrow; obtain ⟨c0, c1, c2, c3, c4, c5⟩ := jar_cells JB.out; have f0 := fun i => frozen_none JB.out i)
  have HC := Lib.hid (jar_put JB.out (.slice b1 ps.length cp1) (.int .i64 a) (.int .i64 b) (.int .i64 0) (.int .i64 1) (.slice (some ⟨w1.heap.size, 0, none⟩) 0 0))
  have HR : Hid (RowC w1 wA.heap.size (.slice b1 ps.length cp1) ps) := Lib.hid (rowC_own (by simpa using HO.out))
  have HR2 := Lib.hid (rowC_put ((HR.out.below ((Below.refl _ _).alloc (Nat.le_refl _) (.cells #[] 97))).more (Nat.le_refl _)) hlt0 (.slice b1 ps.length cp1) (.int .i64 a) (.int .i64 b) (.int .i64 0) (.int .i64 1) (.slice (some ⟨w1.heap.size, 0, none⟩) 0 0))
  have HB2 := Lib.hid (jar_below (BA.out.trans ((BI.out.alloc BI.out.size (.cells #[] 97)).mono BA.out.size)) (Nat.le_refl _) (.slice b1 ps.length cp1) (.int .i64 a) (.int .i64 b) (.int .i64 0) (.int .i64 1) (.slice (some ⟨w1.heap.size, 0, none⟩) 0 0))
  obtain ⟨d0, d1, d2, d3, d4, d5⟩ := jar_cells HC.out
  refine bodyPost_ret (v := .agg #[.slice b1 ps.length cp1, .int .i64 a, .int .i64 b, .int .i64 0, .int .i64 1, .slice (some ⟨w1.heap.size, 0, none⟩) 0 0]) (by simp [results, Tryd.results56, go_sem, d0, d1, d2, d3, d4, d5]) rfl ?_
  exact ⟨_, _, _, rfl, HR2.out.more BA.out.size, HB2.out⟩
/-- The jar that is none, and the jar that is made: what either NewJar answers. -/
def JarP (w : World) (ps : List (List UInt8)) (a b nx code : Int) (e : Ending) (w' : World) : Prop := ∃ u x y, e = .returned (.tuple #[.agg #[u, .int .i64 a, .int .i64 b, .int .i64 0, .int .i64 nx, .slice x 0 y], .int .i64 code]) ∧ RowC w' w.heap.size u ps ∧ Below w.heap.size w w'
def JarQ (w : World) (ps : List (List UInt8)) (a b : Int) : Ending → World → Prop :=
  if ps.length ≤ 4096 then if rulesL ps then if inRange a 1 12 && inRange b 1 12 then JarP w ps a b 1 0 else JarP w [] 0 0 0 4 else JarP w [] 0 0 0 1 else JarP w [] 0 0 0 2
theorem jarQ2 {w : World} {ps : List (List UInt8)} {a b : Int} (h : ¬ ps.length ≤ 4096) : JarQ w ps a b = JarP w [] 0 0 0 2 := if_neg h
theorem jarQ1 {w : World} {ps : List (List UInt8)} {a b : Int} (h : ps.length ≤ 4096) (hr : rulesL ps = false) : JarQ w ps a b = JarP w [] 0 0 0 1 := by
  unfold JarQ
  rw [if_pos h, hr]
  rfl
theorem jarQ4 {w : World} {ps : List (List UInt8)} {a b : Int} {p q : Bool} (h : ps.length ≤ 4096) (hr : rulesL ps = true) (hp : inRange a 1 12 = p) (hq : inRange b 1 12 = q) (hx : (p && q) = false) : JarQ w ps a b = JarP w [] 0 0 0 4 := by
  unfold JarQ
  rw [if_pos h, hr, hp, hq, hx]
  rfl
theorem jarQ0 {w : World} {ps : List (List UInt8)} {a b : Int} {p q : Bool} (h : ps.length ≤ 4096) (hr : rulesL ps = true) (hp : inRange a 1 12 = p) (hq : inRange b 1 12 = q) (hx : (p && q) = true) : JarQ w ps a b = JarP w ps a b 1 0 := by
  unfold JarQ
  rw [if_pos h, hr, hp, hq, hx]
  rfl
theorem nil_rowC (w : World) (B : Nat) : RowC w B (.slice none 0 0) [] := ⟨RowT.empty _ _ _ _, _, _, rfl, Nat.le_refl _, Nat.zero_le _⟩
set_option maxRecDepth 100000 in
set_option maxHeartbeats 4000000 in
theorem implNewJar_any (v : Value) (B : Nat) (ps : List (List UInt8)) (a b : Int) (w : World) (hl : ps.length ≤ 1048576) (hm : ∀ x ∈ ps, x.length ≤ 1048576) (hv : RowC w B v ps) (hT : TabAt w) : Calls Tryd.prog 27 #[v, .int .i64 a, .int .i64 b] w (JarQ w ps a b) := by
  obtain ⟨⟨a0, cap0, rfl, _⟩, _⟩ := id hv
  have HV := Lib.hid hv
  have HM := Lib.hid hm
  have HT := Lib.hid hT
  clear hv hm hT
  have BA : Hid (Below w.heap.size w (w.alloc (.cells #[.slice none 0 0, .int .i64 0, .int .i64 0, .int .i64 0, .int .i64 0, .slice none 0 0] 46))) := Lib.hid ((Below.refl _ _).alloc (Nat.le_refl _) _)
  have JA : Hid ((w.alloc (.cells #[.slice none 0 0, .int .i64 0, .int .i64 0, .int .i64 0, .int .i64 0, .slice none 0 0] 46)).heap[w.heap.size]? = some (.cells #[.slice none 0 0, .int .i64 0, .int .i64 0, .int .i64 0, .int .i64 0, .slice none 0 0] 46 (0, 0))) := Lib.hid (heap_alloc_new _ _)
  obtain ⟨wA, hwA⟩ : ∃ wA, w.alloc (.cells #[.slice none 0 0, .int .i64 0, .int .i64 0, .int .i64 0, .int .i64 0, .slice none 0 0] 46) = wA := ⟨_, rfl⟩
  have hlt0 : w.heap.size < wA.heap.size := by rw [← hwA]; simp
  rw [hwA] at BA JA
  have HWA := Lib.hid hwA
  have HA := Lib.hid (isWithin_is a 1 12)
  have HB := Lib.hid (isWithin_is b 1 12)
  obtain ⟨p, hp⟩ : ∃ p, inRange a 1 12 = p := ⟨_, rfl⟩
  obtain ⟨q, hq⟩ : ∃ q, inRange b 1 12 = q := ⟨_, rfl⟩
  rw [hp] at HA
  rw [hq] at HB
  have HP := Lib.hid hp
  have HQ := Lib.hid hq
  clear hwA hp hq
  by_cases h4 : ps.length ≤ 4096
  · cases hr : rulesL ps with
    | false =>
      rw [jarQ1 h4 hr]
      have HR := Lib.hid hr
      clear hr
      go_enter Tryd.func27, Tryd.ntmps27
      go_upto_region 1 with fail
      rw [HWA.out]
      go_wp2_with (go_at_call 57; refine (implRules _ _ ps _ (HV.out.below (BA.out)).1 hl HM.out (HT.out.below BA.out)).mono ?_; rintro e w1 ⟨rfl, hb⟩; rw [HR.out]; have BX := Lib.hid (BA.out.trans (hb.mono BA.out.size)); have JX := Lib.hid ((hb.block w.heap.size hlt0).trans JA.out); clear hb; obtain ⟨c0, c1, c2, c3, c4, c5⟩ := jar_cells JX.out; have f0 := fun i => frozen_none JX.out i)
      have HC := Lib.hid (jar_put JX.out (.slice none 0 0) (.int .i64 0) (.int .i64 0) (.int .i64 0) (.int .i64 0) (.slice none 0 0))
      have HBC := Lib.hid (jar_below BX.out (Nat.le_refl _) (.slice none 0 0) (.int .i64 0) (.int .i64 0) (.int .i64 0) (.int .i64 0) (.slice none 0 0))
      obtain ⟨d0, d1, d2, d3, d4, d5⟩ := jar_cells HC.out
      refine bodyPost_ret (v := .tuple #[.agg #[.slice none 0 0, .int .i64 0, .int .i64 0, .int .i64 0, .int .i64 0, .slice none 0 0], .int .i64 1]) (by simp [results, Tryd.results27, go_sem, d0, d1, d2, d3, d4, d5]) rfl ?_
      exact ⟨_, _, _, rfl, nil_rowC _ _, HBC.out⟩
    | true =>
      have HZ : Hid (∀ x ∈ ps, x.length ≤ 65536) := Lib.hid fun x hx => by
        have h1 : ps.all ruleL = true := by
          have := hr
          unfold rulesL at this
          simp only [Bool.and_eq_true] at this
          exact this.2.1
        have := (rule_size (List.all_eq_true.1 h1 x hx)).1
        omega
      have HR := Lib.hid hr
      cases hpq : (p && q) with
      | false =>
        rw [jarQ4 h4 hr HP.out HQ.out hpq]
        have HPQ := Lib.hid hpq
        clear hr hpq
        go_enter Tryd.func27, Tryd.ntmps27
        go_upto_region 1 with fail
        rw [HWA.out]
        go_wp2_with (first
          | (go_at_call 57; refine (implRules _ _ ps _ (HV.out.below (BA.out)).1 hl HM.out (HT.out.below BA.out)).mono ?_; rintro e w1 ⟨rfl, hb⟩; rw [HR.out]; have BX := Lib.hid (BA.out.trans (hb.mono BA.out.size)); have JX := Lib.hid ((hb.block w.heap.size hlt0).trans JA.out); clear hb; obtain ⟨c0, c1, c2, c3, c4, c5⟩ := jar_cells JX.out; have f0 := fun i => frozen_none JX.out i)
          | (go_at_call 58; refine (limits_any a b _).mono ?_; rintro e w2 ⟨rfl, rfl⟩; rw [HP.out, HQ.out, HPQ.out]))
        have HC := Lib.hid (jar_put JX.out (.slice none 0 0) (.int .i64 0) (.int .i64 0) (.int .i64 0) (.int .i64 0) (.slice none 0 0))
        have HBC := Lib.hid (jar_below BX.out (Nat.le_refl _) (.slice none 0 0) (.int .i64 0) (.int .i64 0) (.int .i64 0) (.int .i64 0) (.slice none 0 0))
        obtain ⟨d0, d1, d2, d3, d4, d5⟩ := jar_cells HC.out
        refine bodyPost_ret (v := .tuple #[.agg #[.slice none 0 0, .int .i64 0, .int .i64 0, .int .i64 0, .int .i64 0, .slice none 0 0], .int .i64 4]) (by simp [results, Tryd.results27, go_sem, d0, d1, d2, d3, d4, d5]) rfl ?_
        exact ⟨_, _, _, rfl, nil_rowC _ _, HBC.out⟩
      | true =>
        rw [jarQ0 h4 hr HP.out HQ.out hpq]
        have HPQ := Lib.hid hpq
        clear hr hpq
        go_enter Tryd.func27, Tryd.ntmps27
        go_upto_region 1 with fail
        rw [HWA.out]
        go_wp2_with (first
          | (go_at_call 57; refine (implRules _ _ ps _ (HV.out.below (BA.out)).1 hl HM.out (HT.out.below BA.out)).mono ?_; rintro e w1 ⟨rfl, hb⟩; rw [HR.out]; have BX := Lib.hid (BA.out.trans (hb.mono BA.out.size)); have JX := Lib.hid ((hb.block w.heap.size hlt0).trans JA.out); clear hb; obtain ⟨c0, c1, c2, c3, c4, c5⟩ := jar_cells JX.out; have f0 := fun i => frozen_none JX.out i)
          | (go_at_call 58; refine (limits_any a b _).mono ?_; rintro e w2 ⟨rfl, rfl⟩; rw [HP.out, HQ.out, HPQ.out])
          | (clear c0 c1 c2 c3 c4 c5 f0; go_at_call 59; refine (cloneTexts_any _ _ ps _ hl HZ.out (HV.out.below BX.out).1).mono ?_; rintro e w2 ⟨u, rfl, hr2, hb⟩; obtain ⟨_, xu, cu, rfl, _, _⟩ := id hr2; have B2 := Lib.hid (BX.out.trans (hb.mono BX.out.size)); have J2 := Lib.hid ((hb.block w.heap.size (World.block_lt_of_cell? _ _ (jar_cells JX.out).1)).trans JX.out); have R2 := Lib.hid (hr2.more (Nat.le_refl _)); clear hb hr2; obtain ⟨c0, c1, c2, c3, c4, c5⟩ := jar_cells J2.out; have f0 := fun i => frozen_none J2.out i))
        have HC := Lib.hid (jar_put J2.out (.slice xu ps.length cu) (.int .i64 a) (.int .i64 b) (.int .i64 0) (.int .i64 1) (.slice none 0 0))
        have hltX := World.block_lt_of_cell? _ _ (jar_cells JX.out).1
        have HR2 := Lib.hid (rowC_put R2.out hltX (.slice xu ps.length cu) (.int .i64 a) (.int .i64 b) (.int .i64 0) (.int .i64 1) (.slice none 0 0))
        have HB2 := Lib.hid (jar_below B2.out (Nat.le_refl _) (.slice xu ps.length cu) (.int .i64 a) (.int .i64 b) (.int .i64 0) (.int .i64 1) (.slice none 0 0))
        obtain ⟨d0, d1, d2, d3, d4, d5⟩ := jar_cells HC.out
        refine bodyPost_ret (v := .tuple #[.agg #[.slice xu ps.length cu, .int .i64 a, .int .i64 b, .int .i64 0, .int .i64 1, .slice none 0 0], .int .i64 0]) (by simp [results, Tryd.results27, go_sem, d0, d1, d2, d3, d4, d5]) rfl ?_
        exact ⟨_, _, _, rfl, HR2.out.more (Nat.le_of_lt hltX), HB2.out⟩
  · rw [jarQ2 h4]
    go_enter Tryd.func27, Tryd.ntmps27
    go_upto_region 1 with fail
    rw [HWA.out]
    have s1 : (4096 : Int) < ps.length := by omega
    obtain ⟨c0, c1, c2, c3, c4, c5⟩ := jar_cells JA.out; have f0 := fun i => frozen_none JA.out i
    go_wp2_with fail
    have HC := Lib.hid (jar_put JA.out (.slice none 0 0) (.int .i64 0) (.int .i64 0) (.int .i64 0) (.int .i64 0) (.slice none 0 0))
    have HBC := Lib.hid (jar_below BA.out (Nat.le_refl _) (.slice none 0 0) (.int .i64 0) (.int .i64 0) (.int .i64 0) (.int .i64 0) (.slice none 0 0))
    obtain ⟨d0, d1, d2, d3, d4, d5⟩ := jar_cells HC.out
    refine bodyPost_ret (v := .tuple #[.agg #[.slice none 0 0, .int .i64 0, .int .i64 0, .int .i64 0, .int .i64 0, .slice none 0 0], .int .i64 2]) (by simp [results, Tryd.results27, go_sem, d0, d1, d2, d3, d4, d5]) rfl ?_
    exact ⟨_, _, _, rfl, nil_rowC _ _, HBC.out⟩
set_option maxRecDepth 100000 in
set_option maxHeartbeats 4000000 in
theorem specNewJar_any (v : Value) (B : Nat) (ps : List (List UInt8)) (a b : Int) (w : World) (hl : ps.length ≤ 1048576) (hm : ∀ x ∈ ps, x.length ≤ 1048576) (hv : RowC w B v ps) : Calls Tryd.prog 25 #[v, .int .i64 a, .int .i64 b] w (JarQ w ps a b) := by
  obtain ⟨⟨a0, cap0, rfl, _⟩, _⟩ := id hv
  have HV := Lib.hid hv
  have HM := Lib.hid hm
  clear hv hm
  have BA : Hid (Below w.heap.size w (w.alloc (.cells #[.slice none 0 0, .int .i64 0, .int .i64 0, .int .i64 0, .int .i64 0, .slice none 0 0] 46))) := Lib.hid ((Below.refl _ _).alloc (Nat.le_refl _) _)
  have JA : Hid ((w.alloc (.cells #[.slice none 0 0, .int .i64 0, .int .i64 0, .int .i64 0, .int .i64 0, .slice none 0 0] 46)).heap[w.heap.size]? = some (.cells #[.slice none 0 0, .int .i64 0, .int .i64 0, .int .i64 0, .int .i64 0, .slice none 0 0] 46 (0, 0))) := Lib.hid (heap_alloc_new _ _)
  obtain ⟨wA, hwA⟩ : ∃ wA, w.alloc (.cells #[.slice none 0 0, .int .i64 0, .int .i64 0, .int .i64 0, .int .i64 0, .slice none 0 0] 46) = wA := ⟨_, rfl⟩
  have hlt0 : w.heap.size < wA.heap.size := by rw [← hwA]; simp
  rw [hwA] at BA JA
  have HWA := Lib.hid hwA
  have HA := Lib.hid (within_any a 1 12)
  have HB := Lib.hid (within_any b 1 12)
  obtain ⟨p, hp⟩ : ∃ p, inRange a 1 12 = p := ⟨_, rfl⟩
  obtain ⟨q, hq⟩ : ∃ q, inRange b 1 12 = q := ⟨_, rfl⟩
  rw [hp] at HA
  rw [hq] at HB
  have HP := Lib.hid hp
  have HQ := Lib.hid hq
  clear hwA hp hq
  by_cases h4 : ps.length ≤ 4096
  · cases hr : rulesL ps with
    | false =>
      rw [jarQ1 h4 hr]
      have HR := Lib.hid hr
      clear hr
      go_enter Tryd.func25, Tryd.ntmps25
      go_upto_region 1 with fail
      rw [HWA.out]
      go_wp2_with (go_at_call 54; refine (specRulesL _ _ ps _ (HV.out.below BA.out) hl HM.out).mono ?_; rintro e w1 ⟨rfl, hb⟩; rw [HR.out]; have BX := Lib.hid (BA.out.trans (hb.mono BA.out.size)); have JX := Lib.hid ((hb.block w.heap.size hlt0).trans JA.out); clear hb; obtain ⟨c0, c1, c2, c3, c4, c5⟩ := jar_cells JX.out; have f0 := fun i => frozen_none JX.out i)
      have HC := Lib.hid (jar_put JX.out (.slice none 0 0) (.int .i64 0) (.int .i64 0) (.int .i64 0) (.int .i64 0) (.slice none 0 0))
      have HBC := Lib.hid (jar_below BX.out (Nat.le_refl _) (.slice none 0 0) (.int .i64 0) (.int .i64 0) (.int .i64 0) (.int .i64 0) (.slice none 0 0))
      obtain ⟨d0, d1, d2, d3, d4, d5⟩ := jar_cells HC.out
      refine bodyPost_ret (v := .tuple #[.agg #[.slice none 0 0, .int .i64 0, .int .i64 0, .int .i64 0, .int .i64 0, .slice none 0 0], .int .i64 1]) (by simp [results, Tryd.results25, go_sem, d0, d1, d2, d3, d4, d5]) rfl ?_
      exact ⟨_, _, _, rfl, nil_rowC _ _, HBC.out⟩
    | true =>
      have HR := Lib.hid hr
      cases p with
      | false =>
        rw [jarQ4 h4 hr HP.out HQ.out rfl]
        clear hr
        go_enter Tryd.func25, Tryd.ntmps25
        go_upto_region 1 with fail
        rw [HWA.out]
        go_wp2_with (first
          | (go_at_call 54; refine (specRulesL _ _ ps _ (HV.out.below BA.out) hl HM.out).mono ?_; rintro e w1 ⟨rfl, hb⟩; rw [HR.out]; have BX := Lib.hid (BA.out.trans (hb.mono BA.out.size)); have JX := Lib.hid ((hb.block w.heap.size hlt0).trans JA.out); clear hb; obtain ⟨c0, c1, c2, c3, c4, c5⟩ := jar_cells JX.out; have f0 := fun i => frozen_none JX.out i)
          | (go_at_call 55; with_reducible refine (HA.out _).mono ?_; rintro e w2 ⟨rfl, rfl⟩))
        have HC := Lib.hid (jar_put JX.out (.slice none 0 0) (.int .i64 0) (.int .i64 0) (.int .i64 0) (.int .i64 0) (.slice none 0 0))
        have HBC := Lib.hid (jar_below BX.out (Nat.le_refl _) (.slice none 0 0) (.int .i64 0) (.int .i64 0) (.int .i64 0) (.int .i64 0) (.slice none 0 0))
        obtain ⟨d0, d1, d2, d3, d4, d5⟩ := jar_cells HC.out
        refine bodyPost_ret (v := .tuple #[.agg #[.slice none 0 0, .int .i64 0, .int .i64 0, .int .i64 0, .int .i64 0, .slice none 0 0], .int .i64 4]) (by simp [results, Tryd.results25, go_sem, d0, d1, d2, d3, d4, d5]) rfl ?_
        exact ⟨_, _, _, rfl, nil_rowC _ _, HBC.out⟩
      | true =>
        cases q with
        | false =>
          rw [jarQ4 h4 hr HP.out HQ.out rfl]
          clear hr
          go_enter Tryd.func25, Tryd.ntmps25
          go_upto_region 1 with fail
          rw [HWA.out]
          go_wp2_with (first
            | (go_at_call 54; refine (specRulesL _ _ ps _ (HV.out.below BA.out) hl HM.out).mono ?_; rintro e w1 ⟨rfl, hb⟩; rw [HR.out]; have BX := Lib.hid (BA.out.trans (hb.mono BA.out.size)); have JX := Lib.hid ((hb.block w.heap.size hlt0).trans JA.out); clear hb; obtain ⟨c0, c1, c2, c3, c4, c5⟩ := jar_cells JX.out; have f0 := fun i => frozen_none JX.out i)
            | (go_at_call 55; with_reducible refine (HA.out _).mono ?_; rintro e w2 ⟨rfl, rfl⟩)
            | (go_at_call 55; with_reducible refine (HB.out _).mono ?_; rintro e w2 ⟨rfl, rfl⟩))
          have HC := Lib.hid (jar_put JX.out (.slice none 0 0) (.int .i64 0) (.int .i64 0) (.int .i64 0) (.int .i64 0) (.slice none 0 0))
          have HBC := Lib.hid (jar_below BX.out (Nat.le_refl _) (.slice none 0 0) (.int .i64 0) (.int .i64 0) (.int .i64 0) (.int .i64 0) (.slice none 0 0))
          obtain ⟨d0, d1, d2, d3, d4, d5⟩ := jar_cells HC.out
          refine bodyPost_ret (v := .tuple #[.agg #[.slice none 0 0, .int .i64 0, .int .i64 0, .int .i64 0, .int .i64 0, .slice none 0 0], .int .i64 4]) (by simp [results, Tryd.results25, go_sem, d0, d1, d2, d3, d4, d5]) rfl ?_
          exact ⟨_, _, _, rfl, nil_rowC _ _, HBC.out⟩
        | true =>
          rw [jarQ0 h4 hr HP.out HQ.out rfl]
          clear hr
          go_enter Tryd.func25, Tryd.ntmps25
          go_upto_region 1 with fail
          rw [HWA.out]
          go_wp2_with (first
            | (go_at_call 54; refine (specRulesL _ _ ps _ (HV.out.below BA.out) hl HM.out).mono ?_; rintro e w1 ⟨rfl, hb⟩; rw [HR.out]; have BX := Lib.hid (BA.out.trans (hb.mono BA.out.size)); have JX := Lib.hid ((hb.block w.heap.size hlt0).trans JA.out); clear hb; obtain ⟨c0, c1, c2, c3, c4, c5⟩ := jar_cells JX.out; have f0 := fun i => frozen_none JX.out i)
            | (go_at_call 55; with_reducible refine (HA.out _).mono ?_; rintro e w2 ⟨rfl, rfl⟩)
            | (go_at_call 55; with_reducible refine (HB.out _).mono ?_; rintro e w2 ⟨rfl, rfl⟩)
            | (clear c0 c1 c2 c3 c4 c5 f0; go_at_call 56; refine (l09New_any _ _ ps a b _ h4 (HV.out.below BX.out)).mono ?_; rintro e w2 ⟨u, xe, ye, rfl, hr2, hb⟩; obtain ⟨_, xu, cu, rfl, _, _⟩ := id hr2; have B2 := Lib.hid (BX.out.trans (hb.mono BX.out.size)); have J2 := Lib.hid ((hb.block w.heap.size (World.block_lt_of_cell? _ _ (jar_cells JX.out).1)).trans JX.out); have R2 := Lib.hid (hr2.more (Nat.le_refl _)); clear hb hr2; obtain ⟨c0, c1, c2, c3, c4, c5⟩ := jar_cells J2.out; have f0 := fun i => frozen_none J2.out i))
          have HC := Lib.hid (jar_put J2.out (.slice xu ps.length cu) (.int .i64 a) (.int .i64 b) (.int .i64 0) (.int .i64 1) (.slice xe 0 ye))
          have hltX := World.block_lt_of_cell? _ _ (jar_cells JX.out).1
          have HR2 := Lib.hid (rowC_put R2.out hltX (.slice xu ps.length cu) (.int .i64 a) (.int .i64 b) (.int .i64 0) (.int .i64 1) (.slice xe 0 ye))
          have HB2 := Lib.hid (jar_below B2.out (Nat.le_refl _) (.slice xu ps.length cu) (.int .i64 a) (.int .i64 b) (.int .i64 0) (.int .i64 1) (.slice xe 0 ye))
          obtain ⟨d0, d1, d2, d3, d4, d5⟩ := jar_cells HC.out
          refine bodyPost_ret (v := .tuple #[.agg #[.slice xu ps.length cu, .int .i64 a, .int .i64 b, .int .i64 0, .int .i64 1, .slice xe 0 ye], .int .i64 0]) (by simp [results, Tryd.results25, go_sem, d0, d1, d2, d3, d4, d5]) rfl ?_
          exact ⟨_, _, _, rfl, HR2.out.more (Nat.le_of_lt hltX), HB2.out⟩
  · rw [jarQ2 h4]
    go_enter Tryd.func25, Tryd.ntmps25
    go_upto_region 1 with fail
    rw [HWA.out]
    have s1 : (4096 : Int) < ps.length := by omega
    obtain ⟨c0, c1, c2, c3, c4, c5⟩ := jar_cells JA.out; have f0 := fun i => frozen_none JA.out i
    go_wp2_with fail
    have HC := Lib.hid (jar_put JA.out (.slice none 0 0) (.int .i64 0) (.int .i64 0) (.int .i64 0) (.int .i64 0) (.slice none 0 0))
    have HBC := Lib.hid (jar_below BA.out (Nat.le_refl _) (.slice none 0 0) (.int .i64 0) (.int .i64 0) (.int .i64 0) (.int .i64 0) (.slice none 0 0))
    obtain ⟨d0, d1, d2, d3, d4, d5⟩ := jar_cells HC.out
    refine bodyPost_ret (v := .tuple #[.agg #[.slice none 0 0, .int .i64 0, .int .i64 0, .int .i64 0, .int .i64 0, .slice none 0 0], .int .i64 2]) (by simp [results, Tryd.results25, go_sem, d0, d1, d2, d3, d4, d5]) rfl ?_
    exact ⟨_, _, _, rfl, nil_rowC _ _, HBC.out⟩
end Go.Proofs.YtcaabnnkjnleeaaDoor
