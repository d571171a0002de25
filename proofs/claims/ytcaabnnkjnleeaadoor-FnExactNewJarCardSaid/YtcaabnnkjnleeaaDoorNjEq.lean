/- FnExactNewJar: jars without a cookie compared, marked and looked at; the law's walk. No condition of its own. -/
import Derived.Test.YtcaabnnkjnleeaaDoorNj
import Derived.Test.YtcaabnnkjnleeaaDoorNums
import Derived.Test.YtcaabnnkjnleeaaDoorRows
import Derived.Deep.DeepHandedRow
namespace Go.Proofs.YtcaabnnkjnleeaaDoor
open Go.ChangeShapes Go.WideShapes Go.ChangeAt Go.WideMaps Go.WideElems Go.RowKit

set_option maxRecDepth 100000 in
theorem markText3_any (k : Nat) (w : World) (h0 : 0 < k) (h1 : k ≤ 4000000) : Calls Tryd.prog 61 #[.int .i64 k] w fun e w' => e = .returned (.string (mT k)) ∧ Below w.heap.size w w' := by
  go_enter Tryd.func61, Tryd.ntmps61
  go_wp2
  go_loopw [0, 3] (fun v out wr => MarkRel w k v out wr) (fun v _ _ => (intOf v).toNat)
  case atStart => exact ⟨k, [], rfl, rfl, rfl, by simp, Below.refl _ _⟩
  case round =>
    obtain ⟨k', acc, rfl, rfl, hmk, hle, hb⟩ := hrel
    have HM := Lib.hid hmk
    have HB := Lib.hid hb
    have hacc : (⟨acc.toArray⟩ : ByteArray).size ≤ 4000000 := by show acc.toArray.size ≤ _; rw [List.size_toArray]; omega
    clear hmk hb
    by_cases hk : 0 < k'
    · obtain ⟨c, hc⟩ : ∃ c : UInt8, c = UInt8.ofNat (48 + k' % 10) := ⟨_, rfl⟩
      have hcv := digit_byte k' c (by rw [hc]; simp; omega)
      have HC := Lib.hid hc
      clear hc
      have hm1 : (0 : Int) ≤ (k' : Int) % 10 := by omega
      have hm2 : (k' : Int) % 10 < 10 := by omega
      go_wp2
      go_roundw
      case rel => exact ⟨k' / 10, UInt8.ofNat (48 + k' % 10) :: acc, by go_num, by refine congrArg Value.string (bytes_inj ?_); simp [HC.out], by rw [← mk_step hk]; exact HM.out, by simp; omega, HB.out.alloc HB.out.size _⟩
      case measure => simp [intOf]; omega
    · have hk2 : k' ≤ 0 := by omega
      have HE : Hid (acc = mk k []) := by
        show _ = _
        rw [← HM.out, show k' = 0 by omega, mk_zero]
      go_wp2
      go_ret
      refine ⟨?_, HB.out⟩
      refine congrArg (fun s => Ending.returned (Value.string s)) (bytes_inj ?_)
      rw [HE.out]
      simp [mT, mL]
theorem markStrings3_any (va : Value) (ps : List (List UInt8)) (B k : Nat) (w : World) (h0 : 0 < k) (hl : k + ps.length ≤ 3000000) (ha : RowT w B va ps) : Calls Tryd.prog 30 #[va, .int .i64 k] w fun e w' => e = .returned (.int .i64 ((k + ps.length : Nat) : Int)) ∧ RowT w' B va (marksL k ps.length) ∧ w.grownBy w' (rowOf va ps.length) := by
  obtain ⟨a, ca, rfl, ha⟩ := ha
  by_cases hp : 0 < ps.length
  · obtain ⟨g, rfl, hg1, hg2, hf, hc⟩ := ha hp
    have HF := Lib.hid hf
    have HC := Lib.hid hc
    clear hf hc ha
    go_enter Tryd.func30, Tryd.ntmps30
    go_wp2
    go_loopw [5, 1] (fun i kk wr => MarksRel w g k ps.length i kk wr) (fun i _ _ => ps.length - (intOf i).toNat)
    case atStart => exact ⟨0, Nat.zero_le _, rfl, rfl, HF.out, fun t ht => by omega, fun t ht => ⟨_, HC.out t ht⟩, grown_self _ _, hg2⟩
    case round =>
      obtain ⟨j, hj, rfl, rfl, hf, hm, hx, hgr, hgl⟩ := hrel
      have HF2 := Lib.hid hf
      have HM := Lib.hid hm
      have HX := Lib.hid hx
      have HG := Lib.hid hgr
      clear hf hm hx hgr
      by_cases hlt : j < ps.length
      · obtain ⟨old, hold⟩ := HX.out j hlt
        have HO := Lib.hid hold
        clear hold
        have s1 : (j : Int) < ps.length := by omega
        have s2 : ((k + j : Nat) : Int) ≤ 3000000 := by omega
        go_wp2_with (go_at_call 61; refine (markText3_any (k + j) _ (by omega) (by omega)).mono ?_; rintro e w1 ⟨rfl, hb⟩; have HB := Lib.hid hb; have hcell : w1.cell? ⟨g, j, none⟩ = some old := (hb.cell (p := ⟨g, j, none⟩) hgl).trans HO.out; have hfz : w1.frozen? ⟨g, j, none⟩ = false := (hb.frozen (p := ⟨g, j, none⟩) hgl).trans (HF2.out j hlt); clear hb)
        go_roundw
        case rel =>
          refine ⟨j + 1, by omega, by go_num, by go_num, fun t ht => ?_, fun t ht => ?_, fun t ht => ?_, ?_, ?_⟩
          · rw [World.frozen?_setCell]
            exact (HB.out.frozen (p := ⟨g, t, none⟩) hgl).trans (HF2.out t ht)
          · by_cases e : t = j
            · subst e
              exact World.cell?_setCell_same _ _ _ hcell
            · rw [World.cell?_setCell_other _ _ _ _ (fun h => e (by injection h with _ h2; exact h2.symm))]
              exact (HB.out.cell (p := ⟨g, t, none⟩) hgl).trans (HM.out t (by omega))
          · by_cases e : t = j
            · subst e
              exact ⟨_, World.cell?_setCell_same _ _ _ hcell⟩
            · rw [World.cell?_setCell_other _ _ _ _ (fun h => e (by injection h with _ h2; exact h2.symm))]
              obtain ⟨u, hu⟩ := HX.out t ht
              exact ⟨u, (HB.out.cell (p := ⟨g, t, none⟩) hgl).trans hu⟩
          · exact grown_then HG.out (grown_then (grown_of_below HB.out _) (grown_put _ _ _ _))
          · have := HB.out.size
            simp [World.setCell]
            omega
        case measure => simp [intOf]; omega
      · obtain rfl : j = ps.length := by omega
        go_wp2
        go_ret
        refine ⟨rfl, ⟨_, ca, by rw [marks_len], fun _ => ⟨g, rfl, hg1, hgl, fun t ht => HF2.out t (by rw [marks_len] at ht; exact ht), fun t ht => ?_⟩⟩, by rw [rowOf, if_pos hp]; exact HG.out⟩
        rw [marks_at]
        exact HM.out t (by rw [marks_len] at ht; exact ht)
  · have hz : ps.length = 0 := by omega
    rw [hz]
    clear ha
    go_enter Tryd.func30, Tryd.ntmps30
    go_wp2
    go_loopw [5, 1] (fun i kk wr => i = .int .i64 0 ∧ kk = .int .i64 k ∧ w = wr) (fun i _ _ => (intOf i).toNat)
    case atStart => exact ⟨rfl, rfl, rfl⟩
    case round =>
      obtain ⟨rfl, rfl, rfl⟩ := hrel
      go_wp2
      go_ret
      exact ⟨rfl, RowT.empty _ _ _ _, grown_self _ _⟩
theorem Out.low3 {A B C : Nat} {w w' : World} (h : Out A B w w') (hA : C ≤ A) (hz : C ≤ w.heap.size) : Below C w w' :=
  ⟨h.b0.os, h.b0.tape, h.b0.output, h.b0.size, fun k hk => h.block k (Nat.lt_of_lt_of_le hk hz) (Or.inl (by omega))⟩
theorem Out.trans0 {A B : Nat} {a b c : World} (h : Out A B a b) (k : Out A B b c) : Out A B a c :=
  ⟨h.b0.trans k.b0, fun j h1 h2 => (k.block j (Nat.lt_of_lt_of_le h1 h.b0.size) h2).trans (h.block j h1 h2)⟩
/-- v reads as these texts, in a block from A on and below C. -/
def TxIn (w : World) (A C : Nat) (v : Value) (ps : List (List UInt8)) : Prop :=
  ∃ a cap, v = .slice a ps.length cap ∧ (0 < ps.length → ∃ g, a = some ⟨g, 0, none⟩ ∧ A ≤ g ∧ g < C ∧ C ≤ w.heap.size ∧ (∀ j, j < ps.length → w.frozen? ⟨g, j, none⟩ = false) ∧ ∀ j (hj : j < ps.length), w.cell? ⟨g, j, none⟩ = some (strV ps[j]))
theorem RowT.tx {w : World} {A : Nat} {v : Value} {ps : List (List UInt8)} (h : RowT w A v ps) : TxIn w A w.heap.size v ps := by
  obtain ⟨a, cap, rfl, hx⟩ := h
  refine ⟨a, cap, rfl, fun h0 => ?_⟩
  obtain ⟨g, rfl, h1, h2, h3, h4⟩ := hx h0
  exact ⟨g, rfl, h1, h2, Nat.le_refl _, h3, h4⟩
theorem TxIn.row {w : World} {A C : Nat} {v : Value} {ps : List (List UInt8)} (h : TxIn w A C v ps) : RowT w A v ps := by
  obtain ⟨a, cap, rfl, hx⟩ := h
  refine ⟨a, cap, rfl, fun h0 => ?_⟩
  obtain ⟨g, rfl, h1, h2, hC, h3, h4⟩ := hx h0
  exact ⟨g, rfl, h1, by omega, h3, h4⟩
theorem TxIn.keep {w w' : World} {A C : Nat} {v : Value} {ps : List (List UInt8)} (h : TxIn w A C v ps) (hs : w.heap.size ≤ w'.heap.size) (hk : ∀ k, A ≤ k → k < C → k < w.heap.size → w'.heap[k]? = w.heap[k]?) : TxIn w' A C v ps := by
  obtain ⟨a, cap, rfl, hx⟩ := h
  refine ⟨a, cap, rfl, fun h0 => ?_⟩
  obtain ⟨g, rfl, h1, h2, hC, h3, h4⟩ := hx h0
  have e := hk g h1 h2 (by omega)
  exact ⟨g, rfl, h1, h2, by omega, fun j hj => by rw [World.frozen?, e]; exact h3 j hj, fun j hj => by rw [World.cell?, e]; exact h4 j hj⟩
theorem TxIn.below {w w' : World} {A C D : Nat} {v : Value} {ps : List (List UInt8)} (h : TxIn w A C v ps) (hb : Below D w w') (hC : C ≤ D) : TxIn w' A C v ps := h.keep hb.size fun k _ h2 _ => hb.block k (by omega)
theorem TxIn.out {w w' : World} {A C A2 C2 : Nat} {v : Value} {ps : List (List UInt8)} (h : TxIn w A C v ps) (ho : Out A2 C2 w w') (hd : C ≤ A2 ∨ C2 ≤ A) : TxIn w' A C v ps :=
  h.keep ho.b0.size fun k h1 h2 h3 => ho.block k h3 (by omega)
theorem markTx_any (v : Value) (ps : List (List UInt8)) (A C k : Nat) (w : World) (h0 : 0 < k) (hl : k + ps.length ≤ 3000000) (h : TxIn w A C v ps) : Calls Tryd.prog 30 #[v, .int .i64 k] w fun e w' => e = .returned (.int .i64 ((k + ps.length : Nat) : Int)) ∧ TxIn w' A C v (marksL k ps.length) ∧ Out A C w w' := by
  refine (markStrings3_any v ps A k w h0 hl h.row).mono ?_
  rintro e w' ⟨rfl, hr, hg⟩
  obtain ⟨a, cap, rfl, hx⟩ := h
  refine ⟨rfl, ?_, ⟨hg.os, hg.tape, hg.output, hg.size, fun k hk => absurd hk (Nat.not_lt_zero _)⟩, fun j hj ho => hg.block j hj fun e => ?_⟩
  · obtain ⟨a2, cap2, e2, hy⟩ := hr
    rw [e2]
    refine ⟨a2, cap2, rfl, fun h0 => ?_⟩
    obtain ⟨g, rfl, h1, h2, h3, h4⟩ := hy h0
    rw [marks_len] at h0
    obtain ⟨g2, rfl, h5, h6, h7, _⟩ := hx h0
    injection e2 with e3
    injection e3 with e4
    injection e4 with e5
    subst e5
    exact ⟨g2, rfl, h1, h6, Nat.le_trans h7 hg.size, h3, h4⟩
  · by_cases hp : 0 < ps.length
    · obtain ⟨g2, rfl, h5, h6, h7, _⟩ := hx hp
      rw [rowOf, if_pos hp] at e
      have : j = g2 := by simpa [Value.ownBlock] using e
      omega
    · rw [rowOf, if_neg hp] at e
      cases e
set_option maxRecDepth 100000 in
theorem eqCks0_any (a b : Option Addr) (c d : Nat) (w : World) : Calls Tryd.prog 60 #[.slice a 0 c, .slice b 0 d] w fun e w' => e = .returned (.bool true) ∧ w = w' := by
  go_enter Tryd.func60, Tryd.ntmps60
  go_wp2_with fail
  go_loopw [5] (fun i wr => i = .int .i64 0 ∧ w = wr) (fun i _ => (intOf i).toNat)
  case atStart => exact ⟨rfl, rfl⟩
  case round =>
    obtain ⟨rfl, rfl⟩ := hrel
    go_wp2_with fail
    go_ret
    exact ⟨rfl, rfl⟩
set_option maxRecDepth 100000 in
theorem markCks0_any (a : Option Addr) (c k : Nat) (w : World) : Calls Tryd.prog 62 #[.slice a 0 c, .int .i64 k] w fun e w' => e = .returned (.int .i64 k) ∧ w = w' := by
  go_enter Tryd.func62, Tryd.ntmps62
  go_wp2_with fail
  go_loopw [5, 1] (fun i kk wr => i = .int .i64 0 ∧ kk = .int .i64 k ∧ w = wr) (fun i _ _ => (intOf i).toNat)
  case atStart => exact ⟨rfl, rfl, rfl⟩
  case round =>
    obtain ⟨rfl, rfl, rfl⟩ := hrel
    go_wp2_with fail
    go_ret
    exact ⟨rfl, rfl⟩
set_option maxRecDepth 100000 in
theorem heldCks0_any (a : Option Addr) (c k : Nat) (w : World) : Calls Tryd.prog 64 #[.slice a 0 c, .int .i64 k] w fun e w' => e = .returned (.int .i64 k) ∧ w = w' := by
  go_enter Tryd.func64, Tryd.ntmps64
  go_wp2_with fail
  go_loopw [5, 1] (fun i kk wr => i = .int .i64 0 ∧ kk = .int .i64 k ∧ w = wr) (fun i _ _ => (intOf i).toNat)
  case atStart => exact ⟨rfl, rfl, rfl⟩
  case round =>
    obtain ⟨rfl, rfl, rfl⟩ := hrel
    go_wp2_with fail
    go_ret
    exact ⟨rfl, rfl⟩
/-- A jar without a cookie in a block. -/
def JAt (w : World) (g : Nat) (u : Value) (a b nx : Int) (x : Option Addr) (y : Nat) : Prop := w.heap[g]? = some (.cells #[u, .int .i64 a, .int .i64 b, .int .i64 0, .int .i64 nx, .slice x 0 y] 46 (0, 0))
theorem JAt.lt {w : World} {g y : Nat} {u : Value} {a b nx : Int} {x : Option Addr} (h : JAt w g u a b nx x y) : g < w.heap.size := (Array.getElem?_eq_some_iff.1 h).1
theorem JAt.stays {w w' : World} {g y C : Nat} {u : Value} {a b nx : Int} {x : Option Addr} (h : JAt w g u a b nx x y) (hb : Below C w w') (hC : w.heap.size ≤ C) : JAt w' g u a b nx x y := (hb.block g (Nat.lt_of_lt_of_le h.lt hC)).trans h
theorem JAt.out {w w' : World} {g y A C : Nat} {u : Value} {a b nx : Int} {x : Option Addr} (h : JAt w g u a b nx x y) (ho : Out A C w w') (hd : g < A ∨ C ≤ g) : JAt w' g u a b nx x y := (ho.block g h.lt hd).trans h
theorem JAt.new (w : World) (u : Value) (a b nx : Int) (x : Option Addr) (y : Nat) : JAt (w.alloc (.cells #[u, .int .i64 a, .int .i64 b, .int .i64 0, .int .i64 nx, .slice x 0 y] 46)) w.heap.size u a b nx x y := heap_alloc_new w _
set_option maxRecDepth 100000 in
set_option maxHeartbeats 1000000 in
theorem eqJar_any (u v : Value) (ps : List (List UInt8)) (a b nx : Int) (x x2 : Option Addr) (y y2 A A2 : Nat) (w : World) (hl : ps.length ≤ 1048576) (hu : RowT w A u ps) (hv : RowT w A2 v ps) : Calls Tryd.prog 28 #[.agg #[u, .int .i64 a, .int .i64 b, .int .i64 0, .int .i64 nx, .slice x 0 y], .agg #[v, .int .i64 a, .int .i64 b, .int .i64 0, .int .i64 nx, .slice x2 0 y2]] w fun e w' => e = .returned (.bool true) ∧ Below w.heap.size w w' := by
  obtain ⟨ua, uc, rfl, _⟩ := id hu
  obtain ⟨va, vc, rfl, _⟩ := id hv
  have hbx := ((Below.refl w.heap.size w).alloc (Nat.le_refl _) (.cells #[.slice ua ps.length uc, .int .i64 a, .int .i64 b, .int .i64 0, .int .i64 nx, .slice x 0 y] 46)).alloc (by simp) (.cells #[.slice va ps.length vc, .int .i64 a, .int .i64 b, .int .i64 0, .int .i64 nx, .slice x2 0 y2] 46)
  have hX := (JAt.new w (.slice ua ps.length uc) a b nx x y).stays ((Below.refl (w.alloc (.cells #[.slice ua ps.length uc, .int .i64 a, .int .i64 b, .int .i64 0, .int .i64 nx, .slice x 0 y] 46)).heap.size _).alloc (Nat.le_refl _) (.cells #[.slice va ps.length vc, .int .i64 a, .int .i64 b, .int .i64 0, .int .i64 nx, .slice x2 0 y2] 46)) (Nat.le_refl _)
  have hY := JAt.new (w.alloc (.cells #[.slice ua ps.length uc, .int .i64 a, .int .i64 b, .int .i64 0, .int .i64 nx, .slice x 0 y] 46)) (.slice va ps.length vc) a b nx x2 y2
  rw [World.size_alloc] at hY
  have HU := Lib.hid (hu.below hbx)
  have HV := Lib.hid (hv.below hbx)
  obtain ⟨wb, hwb⟩ : ∃ wb, (w.alloc (.cells #[.slice ua ps.length uc, .int .i64 a, .int .i64 b, .int .i64 0, .int .i64 nx, .slice x 0 y] 46)).alloc (.cells #[.slice va ps.length vc, .int .i64 a, .int .i64 b, .int .i64 0, .int .i64 nx, .slice x2 0 y2] 46) = wb := ⟨_, rfl⟩
  rw [hwb] at hbx hX hY HU HV
  have HWB := Lib.hid hwb
  have HBX := Lib.hid hbx
  have HX := Lib.hid hX
  have HY := Lib.hid hY
  have na : (a != a) = false := by simp
  have nb : (b != b) = false := by simp
  have nn : (nx != nx) = false := by simp
  clear hwb hbx hX hY hu hv
  obtain ⟨c0, c1, c2, c3, c4, c5⟩ := jar_cells HX.out
  obtain ⟨d0, d1, d2, d3, d4, d5⟩ := jar_cells HY.out
  go_enter Tryd.func28, Tryd.ntmps28
  go_upto_region 1 with fail
  rw [HWB.out]
  go_wp2_with fail
  refine (eqStrings_any _ _ ps A A2 _ hl HU.out HV.out).mono ?_
  rintro e w1 ⟨rfl, hb⟩
  have HX1 := Lib.hid (HX.out.stays hb (Nat.le_refl _))
  have HY1 := Lib.hid (HY.out.stays hb (Nat.le_refl _))
  have HB1 := Lib.hid (HBX.out.trans (hb.mono HBX.out.size))
  clear hb c0 c1 c2 c3 c4 c5 d0 d1 d2 d3 d4 d5
  obtain ⟨c0, c1, c2, c3, c4, c5⟩ := jar_cells HX1.out
  obtain ⟨d0, d1, d2, d3, d4, d5⟩ := jar_cells HY1.out
  go_wp2_with fail
  refine (eqCks0_any _ _ _ _ _).mono ?_
  rintro e w2 ⟨rfl, rfl⟩
  go_wp2_with fail
  go_ret
  exact ⟨rfl, HB1.out⟩
set_option maxRecDepth 100000 in
set_option maxHeartbeats 1000000 in
theorem markJar_any (u : Value) (ps : List (List UInt8)) (a b nx : Int) (x : Option Addr) (y A C k : Nat) (w : World) (h0 : 0 < k) (hl : k + ps.length ≤ 3000000) (hu : TxIn w A C u ps) (hC : C ≤ w.heap.size) : Calls Tryd.prog 31 #[.agg #[u, .int .i64 a, .int .i64 b, .int .i64 0, .int .i64 nx, .slice x 0 y], .int .i64 k] w fun e w' => e = .returned (.int .i64 ((k + ps.length : Nat) : Int)) ∧ TxIn w' A C u (marksL k ps.length) ∧ Out A C w w' := by
  obtain ⟨ua, uc, rfl, _⟩ := id hu
  have hbx := (Below.refl w.heap.size w).alloc (Nat.le_refl _) (.cells #[.slice ua ps.length uc, .int .i64 a, .int .i64 b, .int .i64 0, .int .i64 nx, .slice x 0 y] 46)
  have HX := Lib.hid (JAt.new w (.slice ua ps.length uc) a b nx x y)
  have HU := Lib.hid (hu.below hbx hC)
  have HBX := Lib.hid hbx
  clear hbx hu
  obtain ⟨c0, c1, c2, c3, c4, c5⟩ := jar_cells HX.out
  go_enter Tryd.func31, Tryd.ntmps31
  go_wp2_with fail
  refine (markTx_any _ ps A C k _ h0 hl HU.out).mono ?_
  rintro e w1 ⟨rfl, ht, ho⟩
  have HX1 := Lib.hid (HX.out.out ho (Or.inr hC))
  have HT := Lib.hid ht
  have HO : Hid (Out A C w w1) := Lib.hid (Out.trans0 ⟨HBX.out.mono (Nat.zero_le _), fun j hj _ => HBX.out.block j hj⟩ ho)
  clear ht ho c0 c1 c2 c3 c4 c5
  obtain ⟨c0, c1, c2, c3, c4, c5⟩ := jar_cells HX1.out
  go_wp2_with fail
  refine (markCks0_any _ _ _ _).mono ?_
  rintro e w2 ⟨rfl, rfl⟩
  go_wp2_with fail
  go_ret
  exact ⟨rfl, HT.out, HO.out⟩
set_option maxRecDepth 100000 in
set_option maxHeartbeats 1000000 in
theorem heldJar_any (u : Value) (n : Nat) (a b nx : Int) (x : Option Addr) (y A C k : Nat) (w : World) (h0 : 0 < k) (hl : k + n ≤ 1000000) (hu : TxIn w A C u (marksL k n)) (hC : C ≤ w.heap.size) : Calls Tryd.prog 32 #[.agg #[u, .int .i64 a, .int .i64 b, .int .i64 0, .int .i64 nx, .slice x 0 y], .int .i64 k] w fun e w' => e = .returned (.int .i64 ((k + n : Nat) : Int)) ∧ Below w.heap.size w w' := by
  obtain ⟨ua, uc, rfl, _⟩ := id hu
  have hbx := (Below.refl w.heap.size w).alloc (Nat.le_refl _) (.cells #[.slice ua (marksL k n).length uc, .int .i64 a, .int .i64 b, .int .i64 0, .int .i64 nx, .slice x 0 y] 46)
  have HX := Lib.hid (JAt.new w (.slice ua (marksL k n).length uc) a b nx x y)
  have HU := Lib.hid (hu.below hbx hC)
  have HBX := Lib.hid hbx
  clear hbx hu
  obtain ⟨c0, c1, c2, c3, c4, c5⟩ := jar_cells HX.out
  have hk0 : ¬ ((k + n : Nat) : Int) < 0 := by omega
  go_enter Tryd.func32, Tryd.ntmps32
  go_wp2_with fail
  refine (heldStrings_any _ A k n _ h0 hl HU.out.row).mono ?_
  rintro e w1 ⟨rfl, hb⟩
  have HX1 := Lib.hid (HX.out.stays hb (Nat.le_refl _))
  have HB1 := Lib.hid (HBX.out.trans (hb.mono HBX.out.size))
  clear hb c0 c1 c2 c3 c4 c5
  obtain ⟨c0, c1, c2, c3, c4, c5⟩ := jar_cells HX1.out
  go_wp2_with fail
  refine (heldCks0_any _ _ _ _).mono ?_
  rintro e w2 ⟨rfl, rfl⟩
  go_wp2_with fail
  go_ret
  exact ⟨rfl, HB1.out⟩
theorem jarQ_form (ps : List (List UInt8)) (a b : Int) : ∃ (rs : List (List UInt8)) (ja jb nx c : Int), rs.length ≤ 8 ∧ ∀ w, JarQ w ps a b = JarP w rs ja jb nx c := by
  by_cases h : ps.length ≤ 4096
  · cases hr : rulesL ps with
    | false => exact ⟨[], 0, 0, 0, 1, by simp, fun w => jarQ1 h hr⟩
    | true =>
      cases hx : (inRange a 1 12 && inRange b 1 12) with
      | false => exact ⟨[], 0, 0, 0, 4, by simp, fun w => jarQ4 h hr rfl rfl hx⟩
      | true => exact ⟨ps, a, b, 1, 0, by
          unfold rulesL at hr
          simp only [Bool.and_eq_true, decide_eq_true_eq] at hr
          exact hr.1, fun w => jarQ0 h hr rfl rfl hx⟩
  · exact ⟨[], 0, 0, 0, 2, by simp, fun w => jarQ2 h⟩
end Go.Proofs.YtcaabnnkjnleeaaDoor
