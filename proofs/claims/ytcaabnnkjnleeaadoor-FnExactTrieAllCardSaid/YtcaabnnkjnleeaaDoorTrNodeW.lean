/- The model's look at a node: the walk. No condition of its own. -/
import Derived.Test.YtcaabnnkjnleeaaDoorTrNode
import Derived.Test.YtcaabnnkjnleeaaDoorBelowCls
import Derived.Laws.Cover1
namespace Go.Proofs.YtcaabnnkjnleeaaDoor
open Go.ChangeShapes Go.WideShapes Go.ChangeAt Go.WideMaps Go.WideElems Go.RowKit

def NdRel (wA : World) (n : Nat) (d : Int) (ks : List Tr) (i : Value) (wr : World) : Prop := ∃ j : Nat, j ≤ ks.length ∧ i = .int .i64 j ∧ (∀ m, m < j → kidAt n d ks m) ∧ Below wA.heap.size wA wr
theorem less_iff : ∀ a b : List UInt8, Op.bytesLess a b = true ↔ a < b
  | [], [] => by simp [Op.bytesLess]
  | [], b :: bs => by simp [Op.bytesLess]
  | a :: xs, [] => by simp [Op.bytesLess]
  | a :: xs, b :: ys => by
    have := less_iff xs ys
    rw [List.cons_lt_cons_iff]
    simp [Op.bytesLess, this]
theorem leq_no {a b : List UInt8} (h : b < a) : (Op.bytesLess a b || a == b) = false := by
  cases e : (Op.bytesLess a b || a == b) with
  | false => rfl
  | true =>
    rcases (show Op.bytesLess a b = true ∨ a = b by simpa using e) with h1 | h1
    · exact (List.lt_asymm ((less_iff _ _).1 h1) h).elim
    · subst h1
      exact (List.lt_irrefl _ h).elim
theorem leq_yes {a b : List UInt8} (h : ¬ b < a) : (Op.bytesLess a b || a == b) = true := by
  by_cases e : a = b
  · simp [e]
  · rw [Bool.or_eq_true]
    left
    rw [less_iff]
    rcases List.le_iff_lt_or_eq.1 (List.not_lt.1 h) with h1 | h1
    · exact h1
    · exact (e h1).elim
theorem dot_iff (l : ByteArray) : findB l 46 < l.size ↔ l.data.toList.contains 46 = true := by
  have : l.size = l.data.toList.length := by simp
  unfold findB
  rw [this, List.findIdx_lt_length]
  simp
theorem lb_dot {l : ByteArray} {b : Nat} (h : findB l 46 = b) (hn : ¬ (b : Int) < l.size) : (!l.data.toList.contains 46) = true := by
  have := dot_iff l
  cases e : l.data.toList.contains 46 with
  | false => rfl
  | true => exact (hn (by have := this.2 e; omega)).elim
theorem lb_dot2 {l : ByteArray} {b : Nat} (h : findB l 46 = b) (hn : (b : Int) < l.size) : (!l.data.toList.contains 46) = false := by
  rw [(dot_iff l).1 (by omega)]
  rfl
theorem host_empty {l : ByteArray} (h : l.toList.isEmpty = true) : lbB l = false := by
  have h9 : l.toList = [] := by simpa using h
  have h6 : l.data.toList = [] := by
    first
      | exact (ByteArray.toList_eq l).symm.trans h9
      | exact (Go.ByteArray.toList_eq l).symm.trans h9
      | exact (Go.Lib.ByteArray.toList_eq l).symm.trans h9
  have h7 : l.size = l.data.toList.length := Lib.size_eq l
  have h8 : ¬ 1 ≤ l.size := by
    rw [h7, h6]
    simp
  unfold lbB
  rw [host_zero h8, Bool.false_and]
set_option maxHeartbeats 8000000 in
set_option maxRecDepth 100000 in
theorem specNode_any (A B : Nat) (z : Bool) : ∀ (n : Nat) (t : Tr) (vi vk : Value) (d : Int) (w : World), wtT n t ≤ 1048576 → -1000000000 ≤ d - n → d ≤ 1000000000 → B ≤ w.heap.size → NodeIn w A B z n t vi vk → Calls Tryd.prog 69 #[.agg #[.string t.l, vi, vk], .int .i64 d] w fun e w' => e = .returned (.bool (okT n t d)) ∧ Below w.heap.size w w' := by
  intro n
  induction n with
  | zero => intro t vi vk d w _ _ _ _ h; exact h.elim
  | succ n ih =>
    intro t vi vk d w hwt hm1 hm2 hB h
    have hw : wtT (n + 1) t = t.l.size + t.ids.length + (t.ks.length + wtK n t.ks) := rfl
    rw [hw] at hwt
    obtain ⟨hi, hk⟩ := h.parts
    obtain ⟨a, cap, rfl, hle, hcm, hx⟩ := hk
    have HX := Lib.hid hx
    have HI := Lib.hid hi
    have IH := Lib.hid ih
    clear hx hi ih h hw
    have BA : Hid (Below w.heap.size w (w.alloc (.cells #[.string t.l, vi, .slice a t.ks.length cap] 30))) := Lib.hid ((Below.refl _ _).alloc (Nat.le_refl _) _)
    have H0 : Hid ((w.alloc (.cells #[.string t.l, vi, .slice a t.ks.length cap] 30)).heap[w.heap.size]? = _) := Lib.hid (heap_alloc_new _ _)
    obtain ⟨wA, hwA⟩ : ∃ wA, w.alloc (.cells #[.string t.l, vi, .slice a t.ks.length cap] 30) = wA := ⟨_, rfl⟩
    have hlt0 : w.heap.size < wA.heap.size := by rw [← hwA]; simp
    by_cases hd : d < 0
    · have HZ : Hid (okT (n + 1) t d = false) := Lib.hid (okT_neg (by omega))
      go_enter Tryd.func69, Tryd.ntmps69
      go_wp2_with fail
      rw [hwA] at BA
      go_ret
      exact ⟨bool_end HZ.out.symm, BA.out⟩
    have hd0 : 0 ≤ d := by omega
    go_enter Tryd.func69, Tryd.ntmps69
    rw [hwA] at BA H0
    obtain ⟨c0, c1, c2⟩ := node_cells H0.out
    go_wp2_with fail
    refine (specIds_any vi t.ids A B z wA (by omega) (Nat.le_trans hB BA.out.size) (HI.out.below BA.out hB)).mono ?_
    rintro e w1 ⟨rfl, hb⟩
    have B1 := Lib.hid (BA.out.trans (hb.mono BA.out.size))
    have K0 := Lib.hid ((hb.block w.heap.size hlt0).trans H0.out)
    have hlt1 := Nat.lt_of_lt_of_le hlt0 hb.size
    clear hb c0 c1 c2
    cases hids : idsB t.ids with
    | false =>
      have HZ : Hid (okT (n + 1) t d = false) := Lib.hid (okT_ids hids)
      go_wp2_with fail
      go_ret
      exact ⟨bool_end HZ.out.symm, B1.out⟩
    | true =>
      go_wp2_with fail
      go_loopw [5] (fun i wr => NdRel w1 n d t.ks i wr) (fun i _ => t.ks.length - (intOf i).toNat)
      case atStart => exact ⟨0, Nat.zero_le _, rfl, (fun m h => by omega), Below.refl _ _⟩
      case round =>
        obtain ⟨j, hj, rfl, hup, hb⟩ := hrel
        have HU := Lib.hid hup
        have HB := Lib.hid hb
        have K1 := Lib.hid ((hb.block w.heap.size hlt1).trans K0.out)
        have BW := Lib.hid (B1.out.trans (hb.mono B1.out.size))
        have hlt2 := Nat.lt_of_lt_of_le hlt1 hb.size
        clear hup hb
        obtain ⟨c0, c1, c2⟩ := node_cells K1.out
        by_cases hlt : j < t.ks.length
        · have s1 : (j : Int) < t.ks.length := by omega
          obtain ⟨g, off, rfl, _, hgB, hcell⟩ := HX.out (by omega)
          obtain ⟨q, hq⟩ : ∃ q : Tr, t.ks[j] = q := ⟨_, rfl⟩
          obtain ⟨_, _, k0, ui, uk, k1, k2, hN⟩ := hcell j hlt
          have hwq : wtT n t.ks[j] ≤ wtK n t.ks := kid_light (List.getElem_mem hlt)
          rw [hq] at k0 hN hwq
          have k0 := (BW.out.cell (p := ⟨g, off + j * 3, none⟩) (by show g < _; omega)).trans k0
          have k1 := (BW.out.cell (p := ⟨g, off + j * 3 + 1, none⟩) (by show g < _; omega)).trans k1
          have k2 := (BW.out.cell (p := ⟨g, off + j * 3 + 2, none⟩) (by show g < _; omega)).trans k2
          obtain ⟨nn, rfl⟩ : ∃ nn, n = nn + 1 := by
            cases n with
            | zero => exact hN.elim
            | succ m => exact ⟨m, rfl⟩
          obtain ⟨pi, pk⟩ := hN.parts
          obtain ⟨ai, ci, rfl, _, _, _⟩ := pi
          obtain ⟨ak, ck, rfl, _, _, _⟩ := pk
          obtain ⟨wk, hwk⟩ : ∃ wk, wr.alloc (.cells #[.string q.l, .slice ai q.ids.length ci, .slice ak q.ks.length ck] 30) = wk := ⟨_, rfl⟩
          have BK : Hid (Below w.heap.size w wk) := Lib.hid (by rw [← hwk]; exact BW.out.alloc BW.out.size _)
          have BRK : Hid (Below wr.heap.size wr wk) := Lib.hid (by rw [← hwk]; exact (Below.refl _ _).alloc (Nat.le_refl _) _)
          have HN := Lib.hid (hN.below BK.out hB)
          have x0 : Hid (wk.heap[wr.heap.size]? = some (.cells #[.string q.l, .slice ai q.ids.length ci, .slice ak q.ks.length ck] 30)) := Lib.hid (by rw [← hwk]; exact heap_alloc_new _ _)
          clear hN
          have HQ0 := Lib.hid hq
          have hqw : wtT (nn + 1) q = q.l.size + q.ids.length + (q.ks.length + wtK nn q.ks) := rfl
          have hqs : q.l.size ≤ 1048576 := by omega
          have hdd : (0 : Int) ≤ d := hd0
          obtain ⟨bf, hbf⟩ : ∃ b : Nat, findB q.l 46 = b := ⟨_, rfl⟩
          obtain ⟨bh, hbh⟩ : ∃ b, hostB q.l = b := ⟨_, rfl⟩
          obtain ⟨bk, hbk⟩ : ∃ b, okT (nn + 1) q (d - 1) = b := ⟨_, rfl⟩
          have HF : Hid (∀ i : BCl wk, Calls Tryd.prog 96 #[.string q.l, .int .u8 46] i.w fun e w' => e = .returned (.int .i64 bf) ∧ i.w = w') := Lib.hid fun i => by rw [← hbf]; exact find_any q.l 46 i.w (by unfold maxLen; omega)
          have HH : Hid (∀ i : BCl wk, Calls Tryd.prog 90 #[.string q.l] i.w fun e w' => e = .returned (.bool bh) ∧ Below i.w.heap.size i.w w') := Lib.hid fun i => by rw [← hbh]; exact specHostL q.l i.w hqs
          have hBw := Nat.le_trans hB BK.out.size
          have HQ : Hid (∀ i : BCl wk, Calls Tryd.prog 69 #[.agg #[.string q.l, .slice ai q.ids.length ci, .slice ak q.ks.length ck], .int .i64 (d - 1)] i.w fun e w' => e = .returned (.bool bk) ∧ Below i.w.heap.size i.w w') := Lib.hid fun i => by rw [← hbk]; exact IH.out q _ _ (d - 1) i.w (by omega) (by omega) (by omega) (Nat.le_trans hBw i.below.size) (HN.out.below i.below hBw)
          go_wp2_with fail
          have hNe : Nonempty (BCl wk) := BCl.full wk
          obtain ⟨e0, e1, e2⟩ := node_cells x0.out
          have q0 := BCl.cell e0
          have q1 := BCl.cell e1
          have q2 := BCl.cell e2
          have c2k : wk.cell? ⟨w.heap.size, 2, none⟩ = _ := (BRK.out.cell (p := ⟨w.heap.size, 2, none⟩) hlt2).trans c2
          have q3 := BCl.cell c2k
          clear c0 c1 c2 k0 k1 e0 e1 e2 c2k hwk hq k2
          cases g1 : q.l.toList.isEmpty with
          | true =>
            have HZ : Hid (okT (nn + 1 + 1) t d = false) := Lib.hid (okT_no (j := j) fun h => by
              have h := h hlt
              rw [HQ0.out] at h
              exact absurd h.1 (by rw [host_empty g1]; decide))
            clear HQ0
            refine wp_region_below (fun w' => ∃ i : BCl wk, w' = i.w) (by kernel_rfl) (by kernel_rfl) (BCl.start wk) ?_
            repeat (go_big_quiet_step (first
              | (go_at_call 96; rename_i i; with_reducible refine (HF.out i).mono ?_; rintro e w' ⟨h1, h2⟩; exact ⟨h1, i.same h2⟩)
              | (go_at_call 90; rename_i i; with_reducible refine (HH.out i).mono ?_; intro e w' h; exact ⟨h.1, i.next h.2⟩)
              | (go_at_call 69; rename_i i; with_reducible refine (HQ.out i).mono ?_; intro e w' h; exact ⟨h.1, i.next h.2⟩)))
            refine wpQuiet_nil ?_
            intro _ hw'
            obtain ⟨i, rfl⟩ := hw'
            go_wp2_with fail
            go_ret
            exact ⟨bool_end HZ.out.symm, BK.out.trans (i.below.mono BK.out.size)⟩
          | false =>
            by_cases f1 : (bf : Int) < q.l.size
            · have HZ : Hid (okT (nn + 1 + 1) t d = false) := Lib.hid (okT_no (j := j) fun h => by
                have h := h hlt
                rw [HQ0.out] at h
                have h := h.1
                unfold lbB at h
                rw [lb_dot2 hbf f1] at h
                simp at h)
              clear HQ0
              refine wp_region_below (fun w' => ∃ i : BCl wk, w' = i.w) (by kernel_rfl) (by kernel_rfl) (BCl.start wk) ?_
              repeat (go_big_quiet_step (first
                | (go_at_call 96; rename_i i; with_reducible refine (HF.out i).mono ?_; rintro e w' ⟨h1, h2⟩; exact ⟨h1, i.same h2⟩)
                | (go_at_call 90; rename_i i; with_reducible refine (HH.out i).mono ?_; intro e w' h; exact ⟨h.1, i.next h.2⟩)
                | (go_at_call 69; rename_i i; with_reducible refine (HQ.out i).mono ?_; intro e w' h; exact ⟨h.1, i.next h.2⟩)))
              refine wpQuiet_nil ?_
              intro _ hw'
              obtain ⟨i, rfl⟩ := hw'
              go_wp2_with fail
              go_ret
              exact ⟨bool_end HZ.out.symm, BK.out.trans (i.below.mono BK.out.size)⟩
            cases bh with
            | false =>
              have HZ : Hid (okT (nn + 1 + 1) t d = false) := Lib.hid (okT_no (j := j) fun h => by
                have h := h hlt
                rw [HQ0.out] at h
                have h := h.1
                unfold lbB at h
                rw [hbh] at h
                simp at h)
              clear HQ0
              refine wp_region_below (fun w' => ∃ i : BCl wk, w' = i.w) (by kernel_rfl) (by kernel_rfl) (BCl.start wk) ?_
              repeat (go_big_quiet_step (first
                | (go_at_call 96; rename_i i; with_reducible refine (HF.out i).mono ?_; rintro e w' ⟨h1, h2⟩; exact ⟨h1, i.same h2⟩)
                | (go_at_call 90; rename_i i; with_reducible refine (HH.out i).mono ?_; intro e w' h; exact ⟨h.1, i.next h.2⟩)
                | (go_at_call 69; rename_i i; with_reducible refine (HQ.out i).mono ?_; intro e w' h; exact ⟨h.1, i.next h.2⟩)))
              refine wpQuiet_nil ?_
              intro _ hw'
              obtain ⟨i, rfl⟩ := hw'
              go_wp2_with fail
              go_ret
              exact ⟨bool_end HZ.out.symm, BK.out.trans (i.below.mono BK.out.size)⟩
            | true =>
              by_cases h0 : 0 < j
              · obtain ⟨p, hp⟩ : ∃ p : Tr, t.ks[j - 1] = p := ⟨_, rfl⟩
                have k0 := (hcell (j - 1) (by omega)).2.2.1
                rw [hp] at k0
                have k0 := (BK.out.cell (p := ⟨g, off + (j - 1) * 3, none⟩) (by show g < _; omega)).trans k0
                have q4 := BCl.cell k0
                have s2 : (0 : Int) < j := by omega
                have s3 : ((j : Int) - 1) = ((j - 1 : Nat) : Int) := by omega
                have s4 : j - 1 < t.ks.length := by omega
                clear k0 hcell
                by_cases hle : p.l.toList < q.l.toList
                · have s5 := leq_no hle
                  cases f5 : ((q.ids.length : Int) + (q.ks.length : Int) == 0) with
                  | true =>
                    have HZ : Hid (okT (nn + 1 + 1) t d = false) := Lib.hid (okT_no (j := j) fun h => by
                      have h := h hlt
                      rw [HQ0.out] at h
                      have h := h.2.2.1
                      unfold fullB at h
                      have h7 : (q.ids.length : Int) + (q.ks.length : Int) = 0 := by simpa using f5
                      rw [List.eq_nil_of_length_eq_zero (by omega : q.ids.length = 0), List.eq_nil_of_length_eq_zero (by omega : q.ks.length = 0)] at h
                      simp at h)
                    clear HQ0
                    refine wp_region_below (fun w' => ∃ i : BCl wk, w' = i.w) (by kernel_rfl) (by kernel_rfl) (BCl.start wk) ?_
                    repeat (go_big_quiet_step (first
                      | (go_at_call 96; rename_i i; with_reducible refine (HF.out i).mono ?_; rintro e w' ⟨h1, h2⟩; exact ⟨h1, i.same h2⟩)
                      | (go_at_call 90; rename_i i; with_reducible refine (HH.out i).mono ?_; intro e w' h; exact ⟨h.1, i.next h.2⟩)
                      | (go_at_call 69; rename_i i; with_reducible refine (HQ.out i).mono ?_; intro e w' h; exact ⟨h.1, i.next h.2⟩)))
                    refine wpQuiet_nil ?_
                    intro _ hw'
                    obtain ⟨i, rfl⟩ := hw'
                    go_wp2_with fail
                    go_ret
                    exact ⟨bool_end HZ.out.symm, BK.out.trans (i.below.mono BK.out.size)⟩
                  | false =>
                    cases bk with
                    | false =>
                      have HZ : Hid (okT (nn + 1 + 1) t d = false) := Lib.hid (okT_no (j := j) fun h => by
                        have h := h hlt
                        rw [HQ0.out] at h
                        rw [hbk] at h
                        exact Bool.noConfusion h.2.2.2)
                      clear HQ0
                      refine wp_region_below (fun w' => ∃ i : BCl wk, w' = i.w) (by kernel_rfl) (by kernel_rfl) (BCl.start wk) ?_
                      repeat (go_big_quiet_step (first
                        | (go_at_call 96; rename_i i; with_reducible refine (HF.out i).mono ?_; rintro e w' ⟨h1, h2⟩; exact ⟨h1, i.same h2⟩)
                        | (go_at_call 90; rename_i i; with_reducible refine (HH.out i).mono ?_; intro e w' h; exact ⟨h.1, i.next h.2⟩)
                        | (go_at_call 69; rename_i i; with_reducible refine (HQ.out i).mono ?_; intro e w' h; exact ⟨h.1, i.next h.2⟩)))
                      refine wpQuiet_nil ?_
                      intro _ hw'
                      obtain ⟨i, rfl⟩ := hw'
                      go_wp2_with fail
                      go_ret
                      exact ⟨bool_end HZ.out.symm, BK.out.trans (i.below.mono BK.out.size)⟩
                    | true =>
                      have HKID : Hid (kidAt (nn + 1) d t.ks j) := Lib.hid fun h => by
                        rw [HQ0.out]
                        refine ⟨?_, fun _ => by rw [hp]; exact hle, ?_, hbk⟩
                        · unfold lbB
                          rw [hbh, Bool.true_and]
                          exact lb_dot hbf f1
                        · unfold fullB
                          cases hq1 : q.ids <;> cases hq2 : q.ks <;> simp_all
                      clear HQ0
                      refine wp_region_below (fun w' => ∃ i : BCl wk, w' = i.w) (by kernel_rfl) (by kernel_rfl) (BCl.start wk) ?_
                      repeat (go_big_quiet_step (first
                        | (go_at_call 96; rename_i i; with_reducible refine (HF.out i).mono ?_; rintro e w' ⟨h1, h2⟩; exact ⟨h1, i.same h2⟩)
                        | (go_at_call 90; rename_i i; with_reducible refine (HH.out i).mono ?_; intro e w' h; exact ⟨h.1, i.next h.2⟩)
                        | (go_at_call 69; rename_i i; with_reducible refine (HQ.out i).mono ?_; intro e w' h; exact ⟨h.1, i.next h.2⟩)))
                      refine wpQuiet_nil ?_
                      intro _ hw'
                      obtain ⟨i, rfl⟩ := hw'
                      go_wp2_with fail
                      go_roundw
                      case rel => exact ⟨j + 1, by omega, by go_num, (fun m hm => by rcases Nat.lt_succ_iff_lt_or_eq.1 hm with h | h; exact HU.out m h; rw [h]; exact HKID.out), (HB.out.trans (BRK.out.mono HB.out.size)).trans (i.below.mono (by have := HB.out.size; have := BRK.out.size; omega))⟩
                      case measure => simp [intOf]; omega
                · have s5 := leq_yes hle
                  have HZ : Hid (okT (nn + 1 + 1) t d = false) := Lib.hid (okT_no (j := j) fun h => by
                    have h := h hlt
                    rw [HQ0.out] at h
                    have h := h.2.1 h0
                    rw [hp] at h
                    exact hle h)
                  clear HQ0
                  refine wp_region_below (fun w' => ∃ i : BCl wk, w' = i.w) (by kernel_rfl) (by kernel_rfl) (BCl.start wk) ?_
                  repeat (go_big_quiet_step (first
                    | (go_at_call 96; rename_i i; with_reducible refine (HF.out i).mono ?_; rintro e w' ⟨h1, h2⟩; exact ⟨h1, i.same h2⟩)
                    | (go_at_call 90; rename_i i; with_reducible refine (HH.out i).mono ?_; intro e w' h; exact ⟨h.1, i.next h.2⟩)
                    | (go_at_call 69; rename_i i; with_reducible refine (HQ.out i).mono ?_; intro e w' h; exact ⟨h.1, i.next h.2⟩)))
                  refine wpQuiet_nil ?_
                  intro _ hw'
                  obtain ⟨i, rfl⟩ := hw'
                  go_wp2_with fail
                  go_ret
                  exact ⟨bool_end HZ.out.symm, BK.out.trans (i.below.mono BK.out.size)⟩
              · have s2 : ¬ (0 : Int) < j := by omega
                clear hcell
                cases f5 : ((q.ids.length : Int) + (q.ks.length : Int) == 0) with
                | true =>
                  have HZ : Hid (okT (nn + 1 + 1) t d = false) := Lib.hid (okT_no (j := j) fun h => by
                    have h := h hlt
                    rw [HQ0.out] at h
                    have h := h.2.2.1
                    unfold fullB at h
                    have h7 : (q.ids.length : Int) + (q.ks.length : Int) = 0 := by simpa using f5
                    rw [List.eq_nil_of_length_eq_zero (by omega : q.ids.length = 0), List.eq_nil_of_length_eq_zero (by omega : q.ks.length = 0)] at h
                    simp at h)
                  clear HQ0
                  refine wp_region_below (fun w' => ∃ i : BCl wk, w' = i.w) (by kernel_rfl) (by kernel_rfl) (BCl.start wk) ?_
                  repeat (go_big_quiet_step (first
                    | (go_at_call 96; rename_i i; with_reducible refine (HF.out i).mono ?_; rintro e w' ⟨h1, h2⟩; exact ⟨h1, i.same h2⟩)
                    | (go_at_call 90; rename_i i; with_reducible refine (HH.out i).mono ?_; intro e w' h; exact ⟨h.1, i.next h.2⟩)
                    | (go_at_call 69; rename_i i; with_reducible refine (HQ.out i).mono ?_; intro e w' h; exact ⟨h.1, i.next h.2⟩)))
                  refine wpQuiet_nil ?_
                  intro _ hw'
                  obtain ⟨i, rfl⟩ := hw'
                  go_wp2_with fail
                  go_ret
                  exact ⟨bool_end HZ.out.symm, BK.out.trans (i.below.mono BK.out.size)⟩
                | false =>
                  cases bk with
                  | false =>
                    have HZ : Hid (okT (nn + 1 + 1) t d = false) := Lib.hid (okT_no (j := j) fun h => by
                      have h := h hlt
                      rw [HQ0.out] at h
                      rw [hbk] at h
                      exact Bool.noConfusion h.2.2.2)
                    clear HQ0
                    refine wp_region_below (fun w' => ∃ i : BCl wk, w' = i.w) (by kernel_rfl) (by kernel_rfl) (BCl.start wk) ?_
                    repeat (go_big_quiet_step (first
                      | (go_at_call 96; rename_i i; with_reducible refine (HF.out i).mono ?_; rintro e w' ⟨h1, h2⟩; exact ⟨h1, i.same h2⟩)
                      | (go_at_call 90; rename_i i; with_reducible refine (HH.out i).mono ?_; intro e w' h; exact ⟨h.1, i.next h.2⟩)
                      | (go_at_call 69; rename_i i; with_reducible refine (HQ.out i).mono ?_; intro e w' h; exact ⟨h.1, i.next h.2⟩)))
                    refine wpQuiet_nil ?_
                    intro _ hw'
                    obtain ⟨i, rfl⟩ := hw'
                    go_wp2_with fail
                    go_ret
                    exact ⟨bool_end HZ.out.symm, BK.out.trans (i.below.mono BK.out.size)⟩
                  | true =>
                    have HKID : Hid (kidAt (nn + 1) d t.ks j) := Lib.hid fun h => by
                      rw [HQ0.out]
                      refine ⟨?_, fun h => absurd h h0, ?_, hbk⟩
                      · unfold lbB
                        rw [hbh, Bool.true_and]
                        exact lb_dot hbf f1
                      · unfold fullB
                        cases hq1 : q.ids <;> cases hq2 : q.ks <;> simp_all
                    clear HQ0
                    refine wp_region_below (fun w' => ∃ i : BCl wk, w' = i.w) (by kernel_rfl) (by kernel_rfl) (BCl.start wk) ?_
                    repeat (go_big_quiet_step (first
                      | (go_at_call 96; rename_i i; with_reducible refine (HF.out i).mono ?_; rintro e w' ⟨h1, h2⟩; exact ⟨h1, i.same h2⟩)
                      | (go_at_call 90; rename_i i; with_reducible refine (HH.out i).mono ?_; intro e w' h; exact ⟨h.1, i.next h.2⟩)
                      | (go_at_call 69; rename_i i; with_reducible refine (HQ.out i).mono ?_; intro e w' h; exact ⟨h.1, i.next h.2⟩)))
                    refine wpQuiet_nil ?_
                    intro _ hw'
                    obtain ⟨i, rfl⟩ := hw'
                    go_wp2_with fail
                    go_roundw
                    case rel => exact ⟨j + 1, by omega, by go_num, (fun m hm => by rcases Nat.lt_succ_iff_lt_or_eq.1 hm with h | h; exact HU.out m h; rw [h]; exact HKID.out), (HB.out.trans (BRK.out.mono HB.out.size)).trans (i.below.mono (by have := HB.out.size; have := BRK.out.size; omega))⟩
                    case measure => simp [intOf]; omega
        · have HZ : Hid (okT (n + 1) t d = true) := Lib.hid (okT_yes hd0 hids HU.out (by omega))
          have s1 : ¬ (j : Int) < t.ks.length := by omega
          go_wp2_with fail
          go_ret
          exact ⟨bool_end HZ.out.symm, BW.out⟩
end Go.Proofs.YtcaabnnkjnleeaaDoor
