/- The function that yields the rules that apply to a host: its contract, for every loop body that keeps the host's box. No condition of its own. -/
import Derived.Test.YtihlflhgbnfkkaaGreatDoorApplies
namespace Go.Proofs.YtihlflhgbnfkkaaGreatDoor
open Go.ChangeShapes Go.WideShapes Go.ChangeAt Go.WideMaps Go.WideElems Go.RowKit Go.Shelf

attribute [local go_sem] Oper.semAt_some

/-- What a round keeps that goes on: what lay below n₀, and the cell of the box Bh. -/
def KpH (n₀ Bh : Nat) (W W' : World) : Prop := Below n₀ W W' ∧ ∀ v, W.cell? ⟨Bh, 0, none⟩ = some v → W'.cell? ⟨Bh, 0, none⟩ = some v
theorem KpH.trans {n₀ Bh : Nat} {A B C : World} (h : KpH n₀ Bh A B) (k : KpH n₀ Bh B C) : KpH n₀ Bh A C := ⟨h.1.trans k.1, fun v hv => k.2 v (h.2 v hv)⟩
theorem KpH.put {n₀ Bh : Nat} {w : World} (hn : n₀ ≤ w.heap.size) (W : World) (l : Nat) (o o' : Obj) (hl : w.heap.size ≤ l) (h : W.heap[l]? = some o) (hc : o.isCells = false) (hw : o.isWalk = false) : KpH n₀ Bh W (W.putObj l o') :=
  ⟨belowK_b hn W l o o' hl h hc hw, fun v hv => Go.cell_kept hv (grownBy_putObj' W l o') (fun r e => by cases e; exact ⟨o, h, hc⟩)⟩
theorem KpH.of_below {n₀ Bh : Nat} {W W' : World} (h : Below W.heap.size W W') (hn : n₀ ≤ W.heap.size) : KpH n₀ Bh W W' :=
  ⟨h.mono hn, fun _ hv => (h.cell (p := ⟨Bh, 0, none⟩) (World.block_lt_of_cell? W _ hv)).trans hv⟩
/-- A row of texts in a block below n₀. -/
def RowB (n₀ : Nat) (w : World) (a : Option Addr) (ps : List (List UInt8)) : Prop := 0 < ps.length → ∃ g, a = some ⟨g, 0, none⟩ ∧ g < n₀ ∧ ∀ j (hj : j < ps.length), w.cell? ⟨g, j, none⟩ = some (strV ps[j])
theorem RowB.below {n₀ : Nat} {w w' : World} {a : Option Addr} {ps : List (List UInt8)} (h : RowB n₀ w a ps) (hb : Below n₀ w w') : RowB n₀ w' a ps := fun h0 => by
  obtain ⟨g, rfl, hg, hc⟩ := h h0
  exact ⟨g, rfl, hg, fun j hj => (hb.cell (p := ⟨g, j, none⟩) hg).trans (hc j hj)⟩
theorem filter_yes {p : List UInt8 → Bool} {ps : List (List UInt8)} {k : Nat} (h : k < ps.length) (hp : p ps[k] = true) : (ps.take (k + 1)).filter p = (ps.take k).filter p ++ [ps[k]] := by
  rw [List.take_succ_eq_append_getElem h, List.filter_append]
  simp [hp]
theorem filter_no {p : List UInt8 → Bool} {ps : List (List UInt8)} {k : Nat} (h : k < ps.length) (hp : p ps[k] = false) : (ps.take (k + 1)).filter p = (ps.take k).filter p := by
  rw [List.take_succ_eq_append_getElem h, List.filter_append]
  simp [hp]
theorem filter_pre (p : List UInt8 → Bool) (ps : List (List UInt8)) (k : Nat) : (ps.take k).filter p <+: ps.filter p := (List.take_prefix k ps).filter p
theorem filter_len (p : List UInt8 → Bool) {ps : List (List UInt8)} {k : Nat} (h : k ≤ ps.length) : ((ps.take k).filter p).length ≤ k := by
  have h1 := List.length_filter_le p (ps.take k)
  rw [List.length_take] at h1
  omega
def YRel (n₀ Bh : Nat) (host : ByteArray) (ps : List (List UInt8)) (J : List Ru → World → Prop) (W : World) (i : Value) (wr : World) : Prop :=
  ∃ (k : Nat) (pre : List Ru), k ≤ ps.length ∧ i = .int .i64 k ∧ pre.map (·.1) = (ps.take k).filter (appL host) ∧ J pre wr ∧ Below n₀ W wr ∧ wr.cell? ⟨Bh, 0, none⟩ = some (.string host) ∧ W.heap.size ≤ wr.heap.size
set_option maxRecDepth 100000 in
set_option maxHeartbeats 4000000 in
theorem rules_stops (n : Nat) (hn : 1 ≤ n) (Br Bh n₀ : Nat) (a : Option Addr) (cap : Nat) (host : ByteArray) (ps : List (List UInt8)) (hh : host.size ≤ 40) (hl : ps.length ≤ 1000) (hps : ps.all ruleL = true) (w : World) (hn₀ : n₀ ≤ w.heap.size)
    (hBr : w.cell? ⟨Br, 0, none⟩ = some (.slice a ps.length cap)) (hBh : w.cell? ⟨Bh, 0, none⟩ = some (.string host)) (hrow : RowB n₀ w a ps) :
    SeqStopsK Fence.wide n Tryz.prog 210 #[.pointer (some ⟨Br, 0, none⟩), .pointer (some ⟨Bh, 0, none⟩)] (fun x : Ru => #[ruV x]) (KpH n₀ Bh) (fun ys => ys.map (·.1) = ps.filter (appL host)) (fun pre => pre.map (·.1) <+: ps.filter (appL host)) ps.length w := fun l J Jx W hW hJ _ hY h0 => by
  have c0 := cell_kept hW hBr
  have hR0 := Lib.hid (hrow.below (hW.mono hn₀))
  have hH := cell_kept hW hBh
  have hnW : n₀ ≤ W.heap.size := Nat.le_trans hn₀ hW.size
  have HP : Hid (∀ x ∈ ps, ruleL x = true) := Lib.hid (fun x hx => List.all_eq_true.1 hps x hx)
  have HJ := Lib.hid hJ
  have HY := Lib.hid hY
  clear hBr hBh hrow hps hJ hY
  refine callsIn_of_wp Tryz.func210 rfl trivial ?_ rfl
  simp only [Tryz.ntmps210, List.size_toArray, List.length_cons, List.length_nil, Nat.reduceAdd, Nat.reduceSub, Array.replicate_succ, Array.replicate_zero, List.push_toArray, List.append_toArray, List.nil_append, List.cons_append]
  gi_wp2
  gi_loopw [9] (fun i wr => YRel n₀ Bh host ps J W i wr) (fun i _ => ps.length - (intOf i).toNat)
  case atStart => exact ⟨0, [], Nat.zero_le _, rfl, rfl, h0, Below.refl _ _, hH, Nat.le_refl _⟩
  case round =>
    obtain ⟨k, pre, hk, rfl, hpre, hJs, hb, hhc, hsz⟩ := hrel
    have HPre := Lib.hid hpre
    have HJs := Lib.hid hJs
    have HB := Lib.hid hb
    clear hpre hJs hb
    by_cases hlt : k < ps.length
    · obtain ⟨g, rfl, hg, hc⟩ := hR0.out (by omega)
      obtain ⟨u, hu⟩ : ∃ u : ByteArray, strV ps[k] = .string u := ⟨_, rfl⟩
      have HU : Hid (u = tOf ps[k]) := Lib.hid (by
        have := Value.string.inj hu
        rw [← this]
        rfl)
      have c1 : wr.cell? ⟨g, k, none⟩ = some (.string u) := by rw [← hu]; exact (HB.out.cell (p := ⟨g, k, none⟩) hg).trans (hc k hlt)
      have HX := Lib.hid (HP.out _ (List.getElem_mem hlt))
      have s1 : (k : Int) < ps.length := by omega
      clear hc hu
      have hub : (bareB u).size ≤ 40 := by
        rw [HU.out]
        exact ru_bare ⟨ps[k], HX.out⟩
      gi_wp2_with fail
      refine ⟨trivial, (callsIn_wide.2 (readRule_any u _)).mono ?_⟩
      rintro e w1 ⟨rfl, hb1⟩
      have hh1 := (hb1.cell (p := ⟨Bh, 0, none⟩) (World.block_lt_of_cell? wr _ hhc)).trans hhc
      have hN := RlB.new w1 (bareB u) (wildB u) (excB u)
      have HN := Lib.hid hN
      have HB1 := Lib.hid hb1
      have hh2 := (World.cell?_alloc_lt w1 (.cells #[.string (bareB u), .bool (wildB u), .bool (excB u)] 83) ⟨Bh, 0, none⟩ (World.block_lt_of_cell? w1 _ hh1)).trans hh1
      obtain ⟨d0, d1, d2⟩ := hN.at
      clear hN hb1
      gi_wp2_with fail
      refine ⟨trivial, (callsIn_wide.2 (applies_any (bareB u) host (wildB u) (excB u) _ hub hh)).mono ?_⟩
      rintro e w3 ⟨rfl, hb3⟩
      have ha : appB host (bareB u) (wildB u) = appL host ps[k] := by
        rw [HU.out]
        exact ru_app host ps[k]
      have hb13 : Below wr.heap.size wr w3 := (HB1.out.alloc HB1.out.size (.cells #[.string (bareB u), .bool (wildB u), .bool (excB u)] 83)).trans (hb3.mono (by have := HB1.out.size; simp; omega))
      have hB3 := HB.out.trans (hb13.mono (Nat.le_trans hnW hsz))
      have hh3 := cell_kept hb13 hhc
      obtain ⟨e0, e1, e2⟩ := (HN.out.stays hb3).at
      have hJ3 := HJ.out pre wr w3 none HJs.out (grown_of_below hb13 none) (fun r e => by cases e)
      have hz3 : W.heap.size ≤ w3.heap.size := Nat.le_trans hsz hb13.size
      have HB3 := Lib.hid hB3
      have hru : ruV ⟨ps[k], HX.out⟩ = .agg #[.string (bareB u), .bool (wildB u), .bool (excB u)] := by
        rw [HU.out]
        rfl
      have hplen : pre.length ≤ k := by
        have h1 := filter_len (appL host) (ps := ps) (k := k) (by omega)
        rw [← HPre.out, List.length_map] at h1
        exact h1
      clear hb3 hb13 hB3 d0 d1 d2 hh1 hh2 c1
      rw [ha]
      clear ha
      cases happ : appL host ps[k] with
      | false =>
        have HA := Lib.hid happ
        clear happ hru
        gi_wp2_with fail
        refine ⟨fun _ h => (by cases h), ?_⟩
        gi_wp2_with fail
        go_roundw
        case rel => exact ⟨k + 1, pre, by omega, by go_num, by rw [filter_no hlt HA.out]; exact HPre.out, hJ3, HB3.out, hh3, hz3⟩
        case measure => simp [intOf]; omega
      | true =>
        have HA := Lib.hid happ
        clear happ
        obtain ⟨fn, tmps, assign, body, hy, hR⟩ := HY.out pre ⟨ps[k], HX.out⟩ w3 hJ3 (by omega)
        rw [hru] at hy
        clear hru
        have HR := Lib.hid hR
        clear hR
        gi_wp2_with fail
        refine HR.out.mono ?_
        rintro e W4 (⟨rfl, hJ4, hk4⟩ | ⟨rfl, hJx4⟩)
        · have hh4 := hk4.2 _ hh3
          have hz4 : W.heap.size ≤ W4.heap.size := Nat.le_trans hz3 hk4.1.size
          have HB4 := Lib.hid (HB3.out.trans hk4.1)
          clear hk4
          gi_wp2_with fail
          go_roundw
          case rel => exact ⟨k + 1, pre ++ [⟨ps[k], HX.out⟩], by omega, by go_num, by rw [filter_yes hlt HA.out, List.map_append, HPre.out]; rfl, hJ4, HB4.out, hh4, hz4⟩
          case measure => simp [intOf]; omega
        · gi_wp2_with fail
          refine bodyPost_ret (results_none rfl _ _ _) rfl ?_
          refine ⟨⟨_, rfl⟩, .inr ⟨pre ++ [⟨ps[k], HX.out⟩], ?_, hJx4⟩⟩
          have h := filter_pre (appL host) ps (k + 1)
          rw [filter_yes hlt HA.out, ← HPre.out] at h
          rw [List.map_append]
          exact h
    · obtain rfl : k = ps.length := by omega
      gi_wp2_with fail
      go_end0
      refine ⟨⟨_, rfl⟩, .inl ⟨pre, ?_, HJs.out⟩⟩
      have h := HPre.out
      rw [List.take_of_length_le (Nat.le_refl _)] at h
      exact h
end Go.Proofs.YtihlflhgbnfkkaaGreatDoor
