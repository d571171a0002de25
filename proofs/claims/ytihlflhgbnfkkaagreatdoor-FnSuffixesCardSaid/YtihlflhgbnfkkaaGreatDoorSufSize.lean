/- How many labels a host's suffix has, in the program. No condition of its own. -/
import Derived.Test.YtihlflhgbnfkkaaGreatDoorYields
namespace Go.Proofs.YtihlflhgbnfkkaaGreatDoor
open Go.ChangeShapes Go.WideShapes Go.ChangeAt Go.WideMaps Go.WideElems Go.RowKit Go.Shelf

attribute [local go_sem] Oper.semAt_some

/-- .. by the rules that apply, and the best so far. -/
def sufF : List (List UInt8) → Int → Int
  | [], b => b
  | t :: ts, b => if excL t then max (sizeL t) 1 else sufF ts (max b (sizeL t))
theorem suf_filter (app : List UInt8 → Bool) : ∀ (ps : List (List UInt8)) (b : Int), sufN app ps b = sufF (ps.filter app) b
  | [], _ => rfl
  | t :: ts, b => by
    rw [sufN, List.filter_cons]
    cases app t with
    | true =>
      rw [if_pos rfl, if_pos rfl, sufF]
      split
      · rfl
      · exact suf_filter app ts _
    | false =>
      rw [if_neg Bool.false_ne_true, if_neg Bool.false_ne_true]
      exact suf_filter app ts b
/-- The number of labels of a host's suffix. -/
def sufI (ps : List (List UInt8)) (host : ByteArray) : Int := if addrB host then 4 else sufN (appL host) ps 1
theorem sufI_in {ps : List (List UInt8)} {host : ByteArray} (h : ps.all ruleL = true) : 1 ≤ sufI ps host ∧ sufI ps host ≤ 7 := by
  unfold sufI
  split
  · omega
  · exact suf_in h (by omega) (by omega)
def SzI (w : World) (B4 B5 : Nat) (pre : List Ru) (W : World) : Prop :=
  (∃ b : Int, 1 ≤ b ∧ b ≤ 7 ∧ Boxed W B5 3 (.int .i64 b) ∧ ∀ rest, sufF (pre.map (·.1) ++ rest) 1 = sufF rest b) ∧ Boxed W B4 3 (.int .i64 0) ∧ Below w.heap.size w W
def SzX (w : World) (B4 : Nat) (c : Code) (pre : List Ru) (W : World) : Prop :=
  c = .ret ∧ (∃ r : Int, Boxed W B4 3 (.int .i64 r) ∧ ∀ rest, sufF (pre.map (·.1) ++ rest) 1 = r) ∧ Below w.heap.size w W
theorem boxed_turn {W W' : World} {B : Nat} {t : TypeId} {v : Value} {row : Option Nat} (h : Boxed W B t v) (hg : W.grownBy W' row) (hr : ∀ r, row = some r → ∃ o : Obj, W.heap[r]? = some o ∧ o.isCells = false) : Boxed W' B t v :=
  h.kept hg (fun e => by
    obtain ⟨o, ho, hc⟩ := hr B e.symm
    rw [show W.heap[B]? = _ from h] at ho
    cases ho
    cases hc)
theorem below_turn {n₀ B : Nat} {w W W' : World} {row : Option Nat} (h : Below n₀ w W) (hn : n₀ ≤ w.heap.size) (hB : n₀ ≤ B) (hg : W.grownBy W' row) (hr : ∀ r, row = some r → B ≤ r ∧ ∃ o : Obj, W.heap[r]? = some o ∧ o.isCells = false) : Below n₀ w W' :=
  h.grown hg (Nat.le_trans hn h.size) (fun k e => Nat.le_trans hB (hr k e).1)
theorem sz_own {w : World} {B4 B5 B : Nat} (hB : w.heap.size ≤ B) : OwnFrom B (SzI w B4 B5) := by
  rintro s X Y row ⟨⟨b, h1, h2, h3, h4⟩, h5, h6⟩ hg hr
  exact ⟨⟨b, h1, h2, boxed_turn h3 hg (fun r e => (hr r e).2), h4⟩, boxed_turn h5 hg (fun r e => (hr r e).2), below_turn h6 (Nat.le_refl _) hB hg hr⟩
theorem szx_own {w : World} {B4 B : Nat} (hB : w.heap.size ≤ B) (c : Code) : OwnFrom B (SzX w B4 c) := by
  rintro s X Y row ⟨h0, ⟨r, h1, h2⟩, h3⟩ hg hr
  exact ⟨h0, ⟨r, boxed_turn h1 hg (fun r e => (hr r e).2), h2⟩, below_turn h3 (Nat.le_refl _) hB hg hr⟩
theorem boxed_below {W W' : World} {B : Nat} {t : TypeId} {v : Value} (h : Boxed W B t v) (hb : Below W.heap.size W W') : Boxed W' B t v := (hb.block B h.lt).trans h
set_option maxRecDepth 100000 in
set_option maxHeartbeats 4000000 in
theorem sufSize_any (B : Nat) (a : Option Addr) (cap : Nat) (ps : List (List UInt8)) (host : ByteArray) (w : World) (hv : RowT w B (.slice a ps.length cap) ps) (hl : ps.length ≤ 1000) (hps : ps.all ruleL = true) (hh : host.size ≤ 40) (hm : MaxAt w) (hN : NumAt w) :
    Calls Tryz.prog 125 #[.slice a ps.length cap, .string host] w fun e w' => e = .returned (.int .i64 (sufI ps host)) ∧ Below w.heap.size w w' := by
  have HM := Lib.hid hm
  have HN := Lib.hid hN
  have HB0 := Lib.hid ((Below.refl w.heap.size w).alloc (Nat.le_refl _) (.cells #[.int .i64 0] 3))
  have X0 := Lib.hid (Boxed.new w 3 (.int .i64 0))
  have s1 : host.size ≤ 65536 := by omega
  clear hm hN
  cases ha : addrB host with
  | true =>
    have HA := Lib.hid ha
    have HE : Hid (sufI ps host = 4) := Lib.hid (by rw [sufI, ha, if_pos rfl])
    clear ha
    go_enter Tryz.func125, Tryz.ntmps125
    go_wp2_with fail
    refine (isAddress_any host _ s1 (HM.out.below HB0.out) (HN.out.below HB0.out)).mono ?_
    rintro e w1 ⟨rfl, hb⟩
    rw [HA.out]
    have HB1 := Lib.hid (HB0.out.trans (hb.mono HB0.out.size))
    have X1 := Lib.hid (boxed_below X0.out hb)
    have c4 := X1.out.cell
    have f4 := X1.out.frozen
    clear hb
    go_wp2_with fail
    have q4 := (X1.out.set (.int .i64 4)).cell
    refine bodyPost_ret (v := .int .i64 4) (by simp [results, Tryz.results125, go_sem, q4]) rfl ?_
    exact ⟨by rw [HE.out], HB1.out.setCell (p := ⟨w.heap.size, 0, none⟩) (Nat.le_refl _) _⟩
  | false =>
    have HA := Lib.hid ha
    have HE : Hid (sufI ps host = sufF (ps.filter (appL host)) 1) := Lib.hid (by rw [sufI, ha, if_neg Bool.false_ne_true, suf_filter])
    clear ha
    refine (callsIn_wide (n := 6)).1 ?_
    refine callsIn_of_wp_marks Tryz.func125 rfl trivial ?_ rfl
    simp only [Tryz.ntmps125, List.size_toArray, List.length_cons, List.length_nil, Nat.reduceAdd, Nat.reduceSub, Array.replicate_succ, Array.replicate_zero, List.push_toArray, List.append_toArray, List.nil_append, List.cons_append]
    gi_wp2_with fail
    refine ⟨trivial, (callsIn_wide.2 (isAddress_any host _ s1 (HM.out.below HB0.out) (HN.out.below HB0.out))).mono ?_⟩
    rintro e w1 ⟨rfl, hb⟩
    rw [HA.out]
    have HB1 := Lib.hid (HB0.out.trans (hb.mono HB0.out.size))
    have X1 := Lib.hid (boxed_below X0.out hb)
    clear hb
    gi_wp2_with fail
    refine ⟨trivial, (callsIn_wide.2 (rulesFor_any (.slice a ps.length cap) host _ ⟨_, _, _, rfl⟩)).mono ?_⟩
    rintro e w4 ⟨rfl, hw4⟩
    gi_wp2_with fail
    subst hw4
    have hz1 := HB1.out.size
    have hB4 : Below w.heap.size w (((w1.alloc (.cells #[.int .i64 1] 3)).alloc (.cells #[.slice a ps.length cap] 32)).alloc (.cells #[.string host] 75)) := ((HB1.out.alloc hz1 _).alloc (by simp; omega) _).alloc (by simp; omega) _
    have bS0 := ((Boxed.new w1 3 (.int .i64 1)).alloc (.cells #[.slice a ps.length cap] 32)).alloc (.cells #[.string host] 75)
    have b40 := ((X1.out.alloc (.cells #[.int .i64 1] 3)).alloc (.cells #[.slice a ps.length cap] 32)).alloc (.cells #[.string host] 75)
    have bR := (Boxed.new (w1.alloc (.cells #[.int .i64 1] 3)) 32 (.slice a ps.length cap)).alloc (.cells #[.string host] 75)
    have bH := Boxed.new ((w1.alloc (.cells #[.int .i64 1] 3)).alloc (.cells #[.slice a ps.length cap] 32)) 75 (.string host)
    simp only [World.size_alloc] at bR bH
    have hsz : (((w1.alloc (.cells #[.int .i64 1] 3)).alloc (.cells #[.slice a ps.length cap] 32)).alloc (.cells #[.string host] 75)).heap.size = w1.heap.size + 3 := by simp
    obtain ⟨W4, hW4⟩ : ∃ W4, ((w1.alloc (.cells #[.int .i64 1] 3)).alloc (.cells #[.slice a ps.length cap] 32)).alloc (.cells #[.string host] 75) = W4 := ⟨_, rfl⟩
    rw [hW4] at hB4 bS0 b40 bR bH hsz ⊢
    clear hW4
    have hrow : RowB w.heap.size w a ps := by
      obtain ⟨a2, c2, e, h⟩ := hv
      injection e with e1 _ _
      subst e1
      intro h0
      obtain ⟨g, rfl, _, hg, _, hc⟩ := h h0
      exact ⟨g, rfl, hg, hc⟩
    have hn4 : w.heap.size ≤ W4.heap.size := hB4.size
    refine wpIn_rangeFunc_ownH rfl (by decide) (gf := 210) (lb := #[.pointer (some ⟨w1.heap.size + 1, 0, none⟩), .pointer (some ⟨w1.heap.size + 1 + 1, 0, none⟩)]) rfl trivial (enters_of Tryz.func210 (by kernel_rfl) rfl)
      (rules_stops 5 (by decide) (w1.heap.size + 1) (w1.heap.size + 1 + 1) w.heap.size a cap host ps hh hl hps W4 hn4 bR.cell bH.cell (hrow.below hB4)) KpH.trans (KpH.put hn4) (Below.refl _ _) (fun _ => rfl)
      (SzI w w.heap.size w1.heap.size) (SzX w w.heap.size) (sz_own hn4) (szx_own hn4)
      ⟨⟨1, by decide, by decide, bS0, fun rest => rfl⟩, b40, hB4⟩
      (fun x a' W => ∃ Bx, RlB W Bx (bareB (tOf x.1)) (wildB (tOf x.1)) (excB (tOf x.1)) ∧ a' = { tmps := #[.slice a ps.length cap, .string host, undef, undef, .pointer (some ⟨w.heap.size, 0, none⟩), .pointer (some ⟨w1.heap.size, 0, none⟩), .pointer (some ⟨Bx, 0, none⟩), .string host, .bool false, .slice a ps.length cap, .string host,
        .func (.func 210) #[] #[.pointer (some ⟨w1.heap.size + 1, 0, none⟩), .pointer (some ⟨w1.heap.size + 1 + 1, 0, none⟩)], ruV x, undef, undef, undef, undef, undef, undef, undef, undef, undef, undef], defers := [] })
      ?hAx ?assign ?body ?done ?stop
    case hAx =>
      rintro x a' _ X Y row ⟨Bx, h2, h3⟩ hg hr
      refine ⟨Bx, ?_, h3⟩
      refine (hg.block Bx h2.lt (fun e => ?_)).trans h2
      obtain ⟨_, o, ho, hc⟩ := hr Bx e.symm
      rw [show X.heap[Bx]? = _ from h2] at ho
      cases ho
      cases hc
    case assign =>
      rintro l pre x W K ⟨⟨b, hb1, hb2, bS, hs⟩, b4, hB⟩ hK
      simp only [ruV]
      gi_wp2
      exact hK _ _ ((KeepsOthers.alloc _ _).from _) (KpH.of_below ((Below.refl _ W).alloc (Nat.le_refl _) _) hB.size) ⟨⟨b, hb1, hb2, bS.alloc _, hs⟩, b4.alloc _, hB.alloc hB.size _⟩ ⟨W.heap.size, RlB.new W _ _ _, rfl⟩
    case body =>
      rintro l pre x a' W hl' ⟨r, hr⟩ ⟨⟨b, hb1, hb2, bS, hs⟩, b4, hB⟩ ⟨Bx, bX, rfl⟩ hlt
      obtain ⟨u, hu⟩ : ∃ u, tOf x.1 = u := ⟨_, rfl⟩
      have hux : (bareB u).size ≤ 40 := by rw [← hu]; exact ru_bare x
      have hexc : excB u = excL x.1 := by rw [← hu, excB, tOf_data]
      have hzI := size_in x.2
      have hzR : sizeR (bareB u) (wildB u) (excB u) = sizeL x.1 := by
        rw [← hu, bareB, wildB, excB, tOf_data]
        exact sizeR_is x.1
      have HS := Lib.hid hs
      have HB := Lib.hid hB
      have HBS := Lib.hid bS
      have HB4 := Lib.hid b4
      rw [hu] at bX
      have HX := Lib.hid bX
      obtain ⟨d0, d1, d2⟩ := bX.at
      have hmW := HM.out.below hB
      clear hs hB bS b4 bX hr
      cases he : excB u with
      | true =>
        rw [he] at hexc d2 hzR
        have HEX := Lib.hid hexc.symm
        have HZ := Lib.hid hzR
        clear hexc hzR hu
        have HC := Lib.hid (fun W' (h : Below w.heap.size w W') => size_any (bareB u) (wildB u) true W' hux (HM.out.below h))
        simp only [ruV]
        gi_wp2_with (refine ⟨trivial, ?_⟩; gi_at_call 171; refine (CallsIn.inRound l (callsIn_wide.2 (HC.out _ HB.out))).mono ?_; rintro e w5 ⟨rfl, hb5⟩; have b45 := boxed_below HB4.out hb5; have c4 := b45.cell; have f4 := b45.frozen; have HB5 := Lib.hid hb5; have H45 := Lib.hid b45; clear hb5 b45)
        refine ⟨(KeepsFrom.of_grownBy (grown_of_below HB5.out none) (fun _ h => by cases h)).trans ((KeepsOthers.setCell _ _ _).from _), rfl, ⟨_, H45.out.set _, fun rest => ?_⟩, (HB.out.trans (HB5.out.mono HB.out.size)).setCell (p := ⟨w.heap.size, 0, none⟩) (Nat.le_refl _) _⟩
        rw [List.map_append, List.append_assoc]
        show sufF (pre.map (·.1) ++ (x.1 :: rest)) 1 = _
        rw [HS.out, sufF, HEX.out, if_pos rfl, HZ.out]
      | false =>
        rw [he] at hexc d2 hzR
        have HEX := Lib.hid hexc.symm
        have HZ := Lib.hid hzR
        clear hexc hzR hu
        have HC := Lib.hid (fun W' (h : Below w.heap.size w W') => size_any (bareB u) (wildB u) false W' hux (HM.out.below h))
        have c5 := HBS.out.cell
        have f5 := HBS.out.frozen
        have hmx : Tryz.prog.follows .mixedOrders = true := by kernel_rfl
        simp only [ruV]
        gi_wp2_with fail
        have HBd := Lib.hid HB.out.drew
        gi_region_with_o (refine ⟨trivial, ?_⟩; gi_at_call 171; refine (CallsIn.inRound l (callsIn_wide.2 (HC.out _ HBd.out))).mono ?_; rintro e w5 ⟨rfl, hb5⟩; have bS5 := boxed_below (W := W.drew) HBS.out hb5; have e5 := bS5.cell; have g5 := bS5.frozen; have HB5 := Lib.hid hb5; have H55 := Lib.hid bS5; clear hb5 bS5)
        all_goals gi_wp2
        all_goals
          have hx4 := X1.out.lt
          have hBW5 : Below W.heap.size W w5 := ((Below.refl _ W).drew).trans HB5.out
          have hBW6 : Below w.heap.size W w5 := hBW5.mono HB.out.size
          refine ⟨((KeepsOthers.drew W).from _).trans ((KeepsFrom.of_grownBy (grown_of_below HB5.out none) (fun _ h => by cases h)).trans ((KeepsOthers.setCell _ _ _).from _)), ⟨hBW6.setCell (p := ⟨w1.heap.size, 0, none⟩) hz1 _, fun v hv => ?_⟩, ⟨⟨_, ?_, ?_, H55.out.set _, fun rest => ?_⟩, (boxed_below HB4.out hBW5).other (by omega) _, (HB.out.trans hBW6).setCell (p := ⟨w1.heap.size, 0, none⟩) hz1 _⟩⟩
          · rw [World.cell?_setCell_other _ _ _ _ (fun h => by injection h with h1; omega)]
            exact cell_kept hBW5 hv
          · omega
          · rw [HZ.out]; omega
          · rw [List.map_append, List.append_assoc]
            show sufF (pre.map (·.1) ++ (x.1 :: rest)) 1 = _
            rw [HS.out, sufF, HEX.out, if_neg Bool.false_ne_true, HZ.out]
    case done =>
      rintro D ys W hD hys ⟨⟨b, hb1, hb2, bS, hs⟩, b4, hB⟩ hK
      have c5 := bS.cell
      have c4 := b4.cell
      have f4 := b4.frozen
      have HBS := Lib.hid bS
      have HB4 := Lib.hid b4
      have HB := Lib.hid hB
      have hval : sufI ps host = b := by
        have h := hs []
        rw [List.append_nil, hys] at h
        rw [HE.out, h]
        rfl
      have HV := Lib.hid hval
      clear hs hval bS b4 hB
      gi_wp2
      have hK' := (KeepsOthers.setCell W ⟨w.heap.size, 0, none⟩ (.int .i64 b)).same D _ hK rfl
      refine ⟨by simp, .inl ⟨_, _, rfl, run_takeDeferred hK', ?_⟩⟩
      have q4 := Go.cell_kept (HB4.out.set (.int .i64 b)).cell (grownBy_putObj' _ D (.deferred none)) (fun r e => by cases e; exact ⟨_, hK', rfl⟩)
      refine ⟨.int .i64 b, ?_, by rw [HV.out], (HB.out.setCell (p := ⟨w.heap.size, 0, none⟩) (Nat.le_refl _) _).trans (belowK_b (w := w) (Nat.le_refl _) _ D _ _ (by omega) hK' rfl rfl)⟩
      simp [results, Tryz.results125, go_sem, q4]
    case stop =>
      rintro D c pre W hD hpre ⟨rfl, ⟨r, b4, hs⟩, hB⟩ hK
      have q4 := Go.cell_kept b4.cell (grownBy_putObj' _ D (.deferred none)) (fun r e => by cases e; exact ⟨_, hK, rfl⟩)
      have HB := Lib.hid hB
      have hval : sufI ps host = r := by
        obtain ⟨rest, hr⟩ := hpre
        rw [HE.out, ← hr]
        exact hs rest
      have HV := Lib.hid hval
      clear hs hval b4 hB
      gi_wp2
      refine ⟨by simp, .inl ⟨_, _, rfl, run_takeDeferred hK, ?_⟩⟩
      refine ⟨.int .i64 r, ?_, by rw [HV.out], HB.out.trans (belowK_b (w := w) (Nat.le_refl _) W D _ _ (by omega) hK rfl rfl)⟩
      simp [results, Tryz.results125, go_sem, q4]
end Go.Proofs.YtihlflhgbnfkkaaGreatDoor
