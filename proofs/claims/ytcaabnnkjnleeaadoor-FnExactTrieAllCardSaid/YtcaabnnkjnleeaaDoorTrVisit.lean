/- The walk over a trie, a node ahead of its kids: the contract of the iterator, for every loop body that keeps what lay below n₀ and the boxes of functions. No condition of its own. -/
import Derived.Test.YtcaabnnkjnleeaaDoorTrKids
import Derived.RangeFuncBox
import Derived.RangeFuncWrites
import Derived.RangeFuncNested
import Derived.RangeFuncBound
import Derived.RangeFuncCalls
import Derived.RangeFuncLeaves
import Derived.Shelf.Abstract
import Derived.Shelf.RegionOpen
import Derived.WalkKit
import Derived.OwnWalkIn
import Derived.TacticsInMore
import Derived.LoopNIn
import Derived.LoopIn
import Derived.Laws.EntriesVeiled
namespace Go.Proofs.YtcaabnnkjnleeaaDoor
open Go.ChangeShapes Go.WideShapes Go.ChangeAt Go.WideMaps Go.WideElems Go.RowKit Go.Shelf

attribute [local go_sem] Oper.semAt_some

theorem tr_room_of_none {F : Fence} (hd : F.depth = none) (k : Nat) : F.room k := fun d h => by rw [hd] at h; cases h
theorem tr_round_any {F : Fence} (hd : F.depth = none) {m m' : Nat} {P : Program} {l : Nat} {f : FuncId} {tmps : Array Value} {assign body : Code} {w : World} {R : Ending → World → Prop}
    (h : RoundIn F m P l f tmps assign body w R) : RoundIn F m' P l f tmps assign body w R := ⟨h.1, fun c cs _ => h.2 c cs (tr_room_of_none hd _)⟩
theorem tr_yield_any {F : Fence} (hd : F.depth = none) {m : Nat} (m' : Nat) {P : Program} {l : Nat} {args : Array Value} {W : World} {R : Ending → World → Prop} (h : YieldAt F m P l args W R) : YieldAt F m' P l args W R := by
  obtain ⟨fn, tmps, assign, body, hy, hR⟩ := h
  exact ⟨fn, tmps, assign, body, hy, tr_round_any hd hR⟩
/-- A node's place, the node, how deep it lies. -/
structure TrP where
  (g off : Nat) (t : Tr) (d : Int)
/-- What the walk hands on: it lies so in w0. -/
def trGood (w0 : World) (C A B : Nat) (z : Bool) (x : TrP) : Prop := (∃ n, NodeAt w0 C A B (n + 1) z x.g x.off x.t ∧ wtT (n + 1) x.t ≤ 1048576) ∧ 0 ≤ x.d ∧ x.d ≤ 2000000
abbrev TrX (w0 : World) (C A B : Nat) (z : Bool) := {x : TrP // trGood w0 C A B z x}
def tdX {w0 : World} {C A B : Nat} {z : Bool} (x : TrX w0 C A B z) : Tr × Int := (x.1.t, x.1.d)
/-- What a round keeps that goes on: what lay below n₀, and the boxes of functions. -/
def KpV (n₀ : Nat) (W W' : World) : Prop := Below n₀ W W' ∧ ∀ b v, Boxed W b 84 v → Boxed W' b 84 v
theorem KpV.refl (n₀ : Nat) (W : World) : KpV n₀ W W := ⟨Below.refl _ _, fun _ _ h => h⟩
theorem KpV.trans {n₀ : Nat} {A B C : World} (h : KpV n₀ A B) (k : KpV n₀ B C) : KpV n₀ A C := ⟨h.1.trans k.1, fun b v hb => k.2 b v (h.2 b v hb)⟩
theorem KpV.of_below {n₀ : Nat} {W W' : World} (h : Below W.heap.size W W') (hn : n₀ ≤ W.heap.size) : KpV n₀ W W' := ⟨h.mono hn, fun b _ hb => (h.block b hb.lt).trans hb⟩
theorem KpV.drew {n₀ : Nat} {W W' : World} (h : KpV n₀ W W') : KpV n₀ W W'.drew := ⟨h.1.drew, fun b v hb => h.2 b v hb⟩
theorem KpV.put {n₀ : Nat} {w : World} (hn : n₀ ≤ w.heap.size) (W : World) (l : Nat) (o o' : Obj) (hl : w.heap.size ≤ l) (h : W.heap[l]? = some o) (hc : o.isCells = false) (hw : o.isWalk = false) : KpV n₀ W (W.putObj l o') :=
  ⟨belowK_b hn W l o o' hl h hc hw, fun b v hb => hb.kept (grownBy_putObj' W l o') (fun e => by
    obtain rfl := Option.some.inj e
    rw [show W.heap[b]? = _ from hb] at h
    cases h
    cases hc)⟩
theorem pre_step (n : Nat) (t : Tr) (d : Int) (j : Nat) (h : j < t.ks.length) : (t.ks.take (j + 1)).flatMap (fun k => preT n k (d + 1)) = (t.ks.take j).flatMap (fun k => preT n k (d + 1)) ++ preT n t.ks[j] (d + 1) := by
  rw [List.take_succ_eq_append_getElem h, List.flatMap_append]
  simp
theorem pre_part (n : Nat) (t : Tr) (d : Int) (j : Nat) : ((t, d) :: (t.ks.take j).flatMap (fun k => preT n k (d + 1))) <+: preT (n + 1) t d := by
  rw [preT, List.cons_prefix_cons]
  refine ⟨rfl, ?_⟩
  conv => rhs; rw [← List.take_append_drop j t.ks, List.flatMap_append]
  exact List.prefix_append _ _
theorem pre_count (n : Nat) (t : Tr) (d : Int) (j : Nat) (h : j < t.ks.length) : ((t.ks.take j).flatMap (fun k => preT n k (d + 1))).length + cntT n t.ks[j] + 1 ≤ cntT (n + 1) t := by
  have h1 := pre_len (n + 1) t d
  rw [preT, List.length_cons] at h1
  have h2 : (t.ks.flatMap fun k => preT n k (d + 1)) = (t.ks.take j).flatMap (fun k => preT n k (d + 1)) ++ (preT n t.ks[j] (d + 1) ++ (t.ks.drop (j + 1)).flatMap (fun k => preT n k (d + 1))) := by
    conv => lhs; rw [← List.take_append_drop j t.ks, List.drop_eq_getElem_cons h, List.flatMap_append, List.flatMap_cons]
  rw [h2, List.length_append, List.length_append, pre_len] at h1
  omega
theorem tr_grown_drew (W : World) : W.grownBy W.drew none := ⟨rfl, rfl, rfl, Nat.le_refl _, fun _ _ _ => rfl⟩
def VisRel {w0 : World} {C A B : Nat} {z : Bool} (n₀ n : Nat) (t : Tr) (d : Int) (pre : List (TrX w0 C A B z)) (J : List (TrX w0 C A B z) → World → Prop) (W : World) (i : Value) (wr : World) : Prop :=
  ∃ (j : Nat) (ys : List (TrX w0 C A B z)), j ≤ t.ks.length ∧ i = .int .i64 j ∧ ys.map tdX = (t, d) :: (t.ks.take j).flatMap (fun k => preT n k (d + 1)) ∧ J (pre ++ ys) wr ∧ KpV n₀ W wr
def VisPost {w0 : World} {C A B : Nat} {z : Bool} (n₀ n : Nat) (t : Tr) (d : Int) (pre : List (TrX w0 C A B z)) (J Jx : List (TrX w0 C A B z) → World → Prop) (W : World) (e : Ending) (W' : World) : Prop :=
  ∃ (b : Bool) (ys : List (TrX w0 C A B z)), e = .returned (.bool b) ∧ (b = true → ys.map tdX = preT n t d ∧ J (pre ++ ys) W' ∧ KpV n₀ W W') ∧ (b = false → ys.map tdX <+: preT n t d ∧ Jx (pre ++ ys) W')
set_option maxRecDepth 100000 in
set_option maxHeartbeats 4000000 in
theorem visit_in (w0 : World) (C A B : Nat) (z : Bool) (hB : B ≤ C) (l n₀ N By Bv L : Nat) (hn₀ : C ≤ n₀) (J Jx : List (TrX w0 C A B z) → World → Prop) (hJ : AbidesFrom L J)
    (hY : ∀ m pre (x : TrX w0 C A B z) W, J pre W → pre.length < N → YieldAt Fence.wide m Tryd.prog l #[.pointer (some ⟨x.1.g, x.1.off, none⟩), .int .i64 x.1.d] W fun e W' =>
      (e = .returned (.bool true) ∧ J (pre ++ [x]) W' ∧ KpV n₀ W W') ∨ (e = .returned (.bool false) ∧ Jx (pre ++ [x]) W')) :
    ∀ (n : Nat) (t : Tr) (g off : Nat) (d : Int) (m : Nat) (pre : List (TrX w0 C A B z)) (W : World), Below n₀ w0 W → NodeAt w0 C A B n z g off t → wtT n t ≤ 1048576 → 0 ≤ d → d + n ≤ 2000000 →
      Boxed W By 84 (.func (.yield l) #[] #[]) → Boxed W Bv 84 (.func (.func 72) #[] #[.pointer (some ⟨By, 0, none⟩), .pointer (some ⟨Bv, 0, none⟩)]) → J pre W → pre.length + cntT n t ≤ N →
      CallsIn Fence.wide m Tryd.prog 72 #[.pointer (some ⟨g, off, none⟩), .int .i64 d, .pointer (some ⟨By, 0, none⟩), .pointer (some ⟨Bv, 0, none⟩)] W (VisPost n₀ n t d pre J Jx W) := by
  intro n
  induction n with
  | zero =>
    intro t g off d m pre W _ ht _ _ _ _ _ _ _
    obtain ⟨_, _, _, _, _, _, _, h⟩ := ht
    exact h.elim
  | succ n ih =>
    intro t g off d m pre W hW ht hwt hd0 hd1 hy hv hJs hN
    obtain ⟨x, hx⟩ : ∃ x : TrX w0 C A B z, x.1 = ⟨g, off, t, d⟩ := ⟨⟨⟨g, off, t, d⟩, ⟨n, ht, hwt⟩, hd0, by show d ≤ 2000000; omega⟩, rfl⟩
    obtain ⟨ak, ck, c2, hk1, hk2, hkid⟩ := ht.kid hB
    obtain ⟨_, hgC, _⟩ := ht
    have hpos : 1 ≤ cntT (n + 1) t := by rw [cntT]; omega
    have hR := hY (m - 1) pre x W hJs (by omega)
    rw [hx] at hR
    obtain ⟨fn, tmps, assign, body, hyl, hRd⟩ := hR
    have HRd := Lib.hid hRd
    have HK := Lib.hid hkid
    have HW := Lib.hid hW
    have HV := Lib.hid hv
    have HIH := Lib.hid ih
    have HY := Lib.hid hy
    have cy := hy.cell
    have HXt : Hid (tdX x = (t, d)) := Lib.hid (by rw [tdX, hx])
    unfold maxLen at hk2
    clear hRd hkid hY hy hx hW hv ih
    refine callsIn_of_wp Tryd.func72 rfl trivial ?_ rfl
    simp only [Tryd.ntmps72, List.size_toArray, List.length_cons, List.length_nil, Nat.reduceAdd, Nat.reduceSub, Array.replicate_succ, Array.replicate_zero, List.push_toArray, List.append_toArray, List.nil_append, List.cons_append]
    gi_wp2
    refine ⟨fun h => (by cases h), HRd.out.mono ?_⟩
    rintro e W1 (⟨rfl, hJ1, hk⟩ | ⟨rfl, hJx⟩)
    · have HK1 := Lib.hid hk
      have HJ1 := Lib.hid hJ1
      have c21 := ((HW.out.trans hk.1).cell (p := ⟨g, off + 2, none⟩) (by show g < n₀; omega)).trans c2
      clear hk hJ1
      have hmx : Tryd.prog.follows .mixedOrders = true := by kernel_rfl
      gi_wp2
      gi_loopw [18] (fun i wr => VisRel n₀ n t d pre J W i wr) (fun i _ => t.ks.length - (intOf i).toNat)
      case atStart => exact ⟨0, [x], Nat.zero_le _, rfl, by simp [HXt.out], HJ1.out, HK1.out⟩
      case round =>
        obtain ⟨j, ys, hj, rfl, hys, hJr, hkr⟩ := hrel
        have HYS := Lib.hid hys
        have HJR := Lib.hid hJr
        have HKR := Lib.hid hkr
        clear hys hJr hkr
        by_cases hlt : j < t.ks.length
        · obtain ⟨g2, off2, rfl, hg2, hcell⟩ := HK.out (by omega)
          have hkj := hcell j hlt
          have hstep := pre_step n t d j hlt
          have hnum := pre_count n t d j hlt
          have hwq := kid_weighs (n := n) (List.getElem_mem hlt)
          have hwt2 : wtT (n + 1) t = t.l.size + t.ids.length + (t.ks.length + (t.ks.map (wtT n)).sum) := rfl
          obtain ⟨q, hq⟩ : ∃ q, t.ks[j] = q := ⟨_, rfl⟩
          rw [hq] at hkj hstep hnum hwq
          have hylen : ys.length = 1 + ((t.ks.take j).flatMap (fun k => preT n k (d + 1))).length := by
            have := congrArg List.length HYS.out
            simpa [Nat.add_comm] using this
          have c2r := ((HW.out.trans HKR.out.1).cell (p := ⟨g, off + 2, none⟩) (by show g < n₀; omega)).trans c2
          have cv := (HKR.out.2 _ _ HV.out).cell
          have hJd : J (pre ++ ys) wr.drew := hJ _ _ _ none HJR.out (tr_grown_drew wr) (fun r e => by cases e)
          have HI := Lib.hid (HIH.out q g2 (off2 + j * 3) (d + 1) (m - 1) (pre ++ ys) wr.drew (HW.out.trans HKR.out.1.drew) hkj (by omega) (by omega) (by omega) (HKR.out.2 _ _ HY.out) (HKR.out.2 _ _ HV.out) hJd (by rw [List.length_append]; omega))
          have HST := Lib.hid hstep
          have s1 : (j : Int) < t.ks.length := by omega
          have s2 : IntKind.i64.wrap (d + 1) = d + 1 := by rw [IntKind.wrap_i64]; omega
          clear hcell hkj hstep hnum hwq hwt2 hq hylen hJd
          gi_wp2
          gi_region_with_o (refine ⟨trivial, fun h => (by cases h), ?_⟩; gi_at_call 72; refine HI.out.mono ?_; rintro e W3 ⟨b, zs, rfl, hyes, hno⟩)
          all_goals
            cases b with
            | true =>
              obtain ⟨hzs, hJ3, hk3⟩ := hyes rfl
              have HZS := Lib.hid hzs
              have HJ3 := Lib.hid hJ3
              have HK3 : Hid (KpV n₀ W W3) := Lib.hid (HKR.out.trans ((KpV.drew (KpV.refl n₀ wr)).trans hk3))
              clear hzs hJ3 hk3 hyes hno
              gi_wp2
              go_roundw
              case rel =>
                refine ⟨j + 1, ys ++ zs, by omega, by go_num, ?_, by rw [← List.append_assoc]; exact HJ3.out, HK3.out⟩
                rw [List.map_append, HYS.out, HZS.out, HST.out]
                rfl
              case measure => simp [intOf]; omega
            | false =>
              obtain ⟨hzs, hJ3⟩ := hno rfl
              have HZS := Lib.hid hzs
              have HJ3 := Lib.hid hJ3
              clear hzs hJ3 hyes hno
              gi_wp2
              go_ret
              refine ⟨false, ys ++ zs, rfl, fun h => (by cases h), fun _ => ⟨?_, by rw [← List.append_assoc]; exact HJ3.out⟩⟩
              refine List.IsPrefix.trans ?_ (pre_part n t d (j + 1))
              rw [List.map_append, HYS.out, HST.out, List.cons_append, List.cons_prefix_cons]
              exact ⟨rfl, (List.prefix_append_right_inj _).2 HZS.out⟩
        · obtain rfl : j = t.ks.length := by omega
          gi_wp2
          go_ret
          refine ⟨true, ys, rfl, fun _ => ⟨?_, HJR.out, HKR.out⟩, fun h => (by cases h)⟩
          rw [HYS.out, List.take_of_length_le (Nat.le_refl _)]
          rfl
    · gi_wp2
      go_ret
      refine ⟨false, [x], rfl, fun h => (by cases h), fun _ => ⟨?_, hJx⟩⟩
      rw [List.map_singleton, HXt.out, preT, List.cons_prefix_cons]
      exact ⟨rfl, List.nil_prefix⟩
set_option maxRecDepth 100000 in
set_option maxHeartbeats 2000000 in
theorem nodes_stops (w0 : World) (C A B : Nat) (z : Bool) (hB : B ≤ C) (k n₀ Bn n g off : Nat) (t : Tr) (hn₀ : C ≤ n₀) (w : World) (hn : n₀ ≤ w.heap.size) (hw : Below n₀ w0 w) (ht : NodeAt w0 C A B n z g off t) (hwt : wtT n t ≤ 1048576) (hd : n ≤ 2000000)
    (hBn : w.cell? ⟨Bn, 0, none⟩ = some (.pointer (some ⟨g, off, none⟩))) :
    SeqStopsK Fence.wide k Tryd.prog 71 #[.pointer (some ⟨Bn, 0, none⟩)] (fun x : TrX w0 C A B z => #[.pointer (some ⟨x.1.g, x.1.off, none⟩), .int .i64 x.1.d]) (KpV n₀) (fun ys => ys.map tdX = preT n t 0) (fun pre => pre.map tdX <+: preT n t 0) (cntT n t) w := fun l J Jx W hW hJ _ hY h0 => by
  have c0 := cell_kept hW hBn
  have b1 := (Boxed.new W 84 (.func (.yield l) #[] #[])).alloc (.cells #[.func (.func 72) #[] #[.pointer (some ⟨W.heap.size, 0, none⟩), .pointer (some ⟨W.heap.size + 1, 0, none⟩)]] 84)
  have b2 := Boxed.new (W.alloc (.cells #[.func (.yield l) #[] #[]] 84)) 84 (.func (.func 72) #[] #[.pointer (some ⟨W.heap.size, 0, none⟩), .pointer (some ⟨W.heap.size + 1, 0, none⟩)])
  rw [World.size_alloc] at b2
  have hJ2 := hJ _ _ _ none (hJ _ _ _ none h0 (World.grownBy_alloc W (.cells #[.func (.yield l) #[] #[]] 84) none) (fun r e => by cases e)) (World.grownBy_alloc _ (.cells #[.func (.func 72) #[] #[.pointer (some ⟨W.heap.size, 0, none⟩), .pointer (some ⟨W.heap.size + 1, 0, none⟩)]] 84) none) (fun r e => by cases e)
  have hB2 : Below n₀ w0 ((W.alloc (.cells #[.func (.yield l) #[] #[]] 84)).alloc (.cells #[.func (.func 72) #[] #[.pointer (some ⟨W.heap.size, 0, none⟩), .pointer (some ⟨W.heap.size + 1, 0, none⟩)]] 84)) := ((hw.trans (hW.mono hn)).alloc (by have := hW.size; omega) _).alloc (by have := hW.size; simp; omega) _
  have HV := Lib.hid (visit_in w0 C A B z hB l n₀ (cntT n t) W.heap.size (W.heap.size + 1) W.heap.size hn₀ J Jx hJ (fun m pre x W1 hj hl => tr_yield_any rfl m (hY pre x W1 hj hl)) n t g off 0 (k - 1) [] _ hB2 ht hwt (Int.le_refl _) (by omega) b1 b2 hJ2 (by simp))
  have c3 := (cell_kept ((Below.refl _ W).alloc (Nat.le_refl _) (.cells #[.func (.yield l) #[] #[]] 84)) c0)
  have c4 := (cell_kept ((Below.refl _ (W.alloc (.cells #[.func (.yield l) #[] #[]] 84))).alloc (Nat.le_refl _) (.cells #[.func (.func 72) #[] #[.pointer (some ⟨W.heap.size, 0, none⟩), .pointer (some ⟨W.heap.size + 1, 0, none⟩)]] 84)) c3)
  clear c3 c0
  clear hY hJ hJ2 hB2 b1 hBn h0
  have cb := b2.cell
  refine callsIn_of_wp Tryd.func71 rfl trivial ?_ rfl
  simp only [Tryd.ntmps71, List.size_toArray, List.length_cons, List.length_nil, Nat.reduceAdd, Nat.reduceSub, Array.replicate_succ, Array.replicate_zero, List.push_toArray, List.append_toArray, List.nil_append, List.cons_append]
  gi_wp2_with (refine ⟨trivial, fun h => (by cases h), ?_⟩; gi_at_call 72; refine HV.out.mono ?_; rintro e W3 ⟨b, zs, rfl, hyes, hno⟩)
  go_end0
  refine ⟨⟨_, rfl⟩, ?_⟩
  cases b with
  | true =>
    obtain ⟨h1, h2, _⟩ := hyes rfl
    exact .inl ⟨zs, h1, h2⟩
  | false =>
    obtain ⟨h1, h2⟩ := hno rfl
    exact .inr ⟨zs, h1, h2⟩
theorem nodes_any (p : Value) (w : World) (hp : ∃ a, p = .pointer a) : Calls Tryd.prog 42 #[p] w fun e w' => e = .returned (.func (.func 71) #[] #[.pointer (some ⟨w.heap.size, 0, none⟩)]) ∧ w' = w.alloc (.cells #[p] 67) := by
  obtain ⟨a, rfl⟩ := hp
  go_enter Tryd.func42, Tryd.ntmps42
  go_wp2
  go_ret
  exact ⟨rfl, rfl⟩
end Go.Proofs.YtcaabnnkjnleeaaDoor
