/- All numbers of a trie, in the program; TrieAll of both: what they answer. No condition of its own. -/
import Derived.Test.YtcaabnnkjnleeaaDoorTrLaw
import Derived.Test.YtcaabnnkjnleeaaDoorAppGen
import Derived.Test.YtcaabnnkjnleeaaDoorNums
namespace Go.Proofs.YtcaabnnkjnleeaaDoor
open Go.ChangeShapes Go.WideShapes Go.ChangeAt Go.WideMaps Go.WideElems Go.RowKit Go.Shelf

attribute [local go_sem] Oper.semAt_some

/-- A row that the call made reads as numbers that may be stored. -/
theorem own_nm {w : World} {base : Nat} {v : Value} {zs : List Int} (h : w.ownsRow base 3 1 v zs.length (zs.map (Value.int .i64))) : NmIn w base w.heap.size true v zs := by
  obtain ⟨hl, ⟨rfl, hz⟩ | ⟨g, cap, cur, rfl, hb, hg, h1, h2, h3, h4⟩⟩ := h
  · rw [List.eq_nil_of_length_eq_zero hz]
    exact nilNm_in w _ _ _ none 0 (Nat.zero_le _)
  · have hlt := (Array.getElem?_eq_some_iff.1 hg).1
    refine ⟨_, cap, rfl, h1, h2, fun _ => ⟨g, 0, rfl, hb, hlt, fun j hj => ⟨?_, fun _ => ?_⟩⟩⟩
    · have := src_own (w := w) (B := base) (e := 3) (n := zs.length) (g := g) (cap := cap) (xs := zs.map (Value.int .i64)) ⟨hl, Or.inr ⟨g, cap, cur, rfl, hb, hg, h1, h2, h3, h4⟩⟩ j (.int .i64 zs[j]) (by simp [hj])
      rw [Go.WideShapes.add_plain] at this
      exact this
    · simp [World.frozen?, hg]
def AlI (w0 : World) (C A B : Nat) (z : Bool) (Bi n₀ : Nat) (pre : List (TrX w0 C A B z)) (W : World) : Prop :=
  (idsX pre).length ≤ pre.length * 1048576 ∧ ((∃ v, Boxed W Bi 22 v ∧ W.ownsRow n₀ 3 1 v (idsX pre).length ((idsX pre).map (Value.int .i64)) ∧ True) ∧ Below n₀ w0 W)
theorem al_own {w0 : World} {C A B Bi n₀ L : Nat} {z : Bool} (hn : n₀ ≤ w0.heap.size) (hL : n₀ ≤ L) : OwnFrom L (AlI w0 C A B z Bi n₀) :=
  OwnFrom.and (ownFrom_pure _ _) (OwnFrom.and (Own.from (holdsRow_own n₀ Bi 22 3 1 (fun pre => (idsX pre).length) (fun pre => (idsX pre).map (Value.int .i64)) (fun _ _ => True)) _) (ownFrom_below hn hL))
set_option maxHeartbeats 2000000 in
set_option maxRecDepth 100000 in
theorem allIds_any (C A B n g off : Nat) (z : Bool) (t : Tr) (w : World) (hB : B ≤ C) (hC : C ≤ w.heap.size) (h : NodeAt w C A B n z g off t) (hwt : wtT n t ≤ 1048576) (hn : n ≤ 1100000) : Calls Tryd.prog 49 #[.pointer (some ⟨g, off, none⟩)] w fun e w' => ∃ v, e = .returned v ∧ w'.ownsRow w.heap.size 3 1 v (allT n t).length ((allT n t).map (Value.int .i64)) ∧ Below w.heap.size w w' := by
  obtain ⟨i0, hi0, hz0, hz1, hz2⟩ := info_parts info_int
  have hcl := cnt_light n t
  have hb3 := ((Below.refl w.heap.size w).alloc (Nat.le_refl _) (.cells #[.slice none 0 0] 22)).alloc (by simp) (.cells #[.pointer (some ⟨g, off, none⟩)] 67)
  have X2 := (Boxed.new w 22 (.slice none 0 0)).alloc (.cells #[.pointer (some ⟨g, off, none⟩)] 67)
  have X3 := Boxed.new (w.alloc (.cells #[.slice none 0 0] 22)) 67 (.pointer (some ⟨g, off, none⟩))
  rw [World.size_alloc] at X3
  have hroot := h.below hb3 hC (by omega)
  have hsz : ((w.alloc (.cells #[.slice none 0 0] 22)).alloc (.cells #[.pointer (some ⟨g, off, none⟩)] 67)).heap.size = w.heap.size + 1 + 1 := by simp
  refine (callsIn_wide (n := 6)).1 ?_
  refine callsIn_of_wp_marks Tryd.func49 rfl trivial ?_ rfl
  simp only [Tryd.ntmps49, List.size_toArray, List.length_cons, List.length_nil, Nat.reduceAdd, Nat.reduceSub, Array.replicate_succ, Array.replicate_zero, List.push_toArray, List.append_toArray, List.nil_append, List.cons_append]
  gi_wp2_with fail
  refine ⟨trivial, (callsIn_wide.2 (nodes_any _ _ ⟨_, rfl⟩)).mono ?_⟩
  rintro e w4 ⟨rfl, hw4⟩
  gi_wp2_with fail
  subst hw4
  obtain ⟨W4, hW4⟩ : ∃ W4, (w.alloc (.cells #[.slice none 0 0] 22)).alloc (.cells #[.pointer (some ⟨g, off, none⟩)] 67) = W4 := ⟨_, rfl⟩
  rw [hW4] at hb3 X2 X3 hroot hsz ⊢
  clear hW4 h
  have hszn : w.heap.size ≤ W4.heap.size := by omega
  refine wpIn_rangeFunc_ownG rfl (by decide) (gf := 71) (lb := #[.pointer (some ⟨w.heap.size + 1, 0, none⟩)]) rfl trivial (enters_of Tryd.func71 (by kernel_rfl) rfl)
    (nodes_stops W4 C A B z hB 5 w.heap.size (w.heap.size + 1) n g off t hC W4 hszn (Below.refl _ _) hroot hwt (by omega) X3.cell) KpV.trans (KpV.put hszn) (Below.refl _ _) (fun _ => rfl)
    (AlI W4 C A B z w.heap.size w.heap.size) (fun _ _ _ => False) (al_own hszn hszn) (fun _ _ _ _ _ hs _ _ => hs)
    ⟨by simp [idsX], ⟨_, X2, World.ownsRow_nil _ _ _ _, trivial⟩, Below.refl _ _⟩
    (fun x => { tmps := #[.pointer (some ⟨g, off, none⟩), undef, .slice none 0 0, .pointer (some ⟨w.heap.size, 0, none⟩), .pointer (some ⟨x.1.g, x.1.off, none⟩), .pointer (some ⟨g, off, none⟩), .func (.func 71) #[] #[.pointer (some ⟨w.heap.size + 1, 0, none⟩)], .pointer (some ⟨x.1.g, x.1.off, none⟩), .int .i64 x.1.d, undef, undef, undef, undef, undef, undef, undef], defers := [] }) ?assign ?body ?done ?stop
  case assign =>
    intro l x W K hK
    gi_wp2
    first | exact hK | simpa using hK
  case body =>
    rintro l pre ⟨⟨g1, off1, q, d⟩, hg⟩ W ⟨hlen, ⟨v, hv, hrow, _⟩, hBW⟩ hlt
    obtain ⟨⟨mm, hq0, hwq⟩, hd0, hd1⟩ := id hg
    dsimp only at hq0 hwq hd0 hd1
    have hq := hq0.below hBW hC (by omega)
    have hszW : w.heap.size ≤ W.heap.size := Nat.le_trans hszn hBW.size
    obtain ⟨vi1, k1, a1, c1', rfl, hcl1, hcm, hids⟩ := hq.ids
    have hil := ids_light hwq
    have HIDS := Lib.hid hids
    have HBW := Lib.hid hBW
    have HROW := Lib.hid hrow
    have HV := Lib.hid hv
    obtain ⟨b0, cap0, rfl⟩ := own_form hrow
    have hcap0 := own_cap hrow
    have q3 := BCl.cell hv.cell
    have q4 := BCl.cell k1
    have hNE := BCl.full W
    have hmx : Tryd.prog.follows .mixedOrders = true := by kernel_rfl
    have hbnd : (idsX pre).length + q.ids.length ≤ (pre.length + 1) * 1048576 := by omega
    have hplen : pre.length + 1 ≤ 1048577 := by omega
    have hbnd2 : (idsX pre).length + q.ids.length ≤ 1099512676352 := by omega
    clear hq0 hq k1 hrow hv hBW hids
    gi_wp2_with fail
    refine wpIn_round_tail 5 (fun w' => ∃ j : BCl W, w' = j.w) hmx (by kernel_rfl) (by kernel_rfl) (fun ⟨_, _, h⟩ => h) (BCl.start W) ?_
    simp only [List.take_succ_cons, List.take_zero, List.drop_succ_cons, List.drop_zero]
    repeat (go_big_quiet_step (fail))
    refine wpQuiet_nil ?_
    intro _ hw'
    obtain ⟨j, rfl⟩ := hw'
    have HVj := Lib.hid (boxed_below HV.out j.below)
    have hij : Below W.heap.size W j.w := j.below
    have HRWj := Lib.hid (own_belowZ HROW.out hij)
    have HIJ := Lib.hid hij
    have hszj : w.heap.size ≤ j.w.heap.size := Nat.le_trans hszW hij.size
    have hsrc : (q.ids.length = 0 ∧ rowZ q.ids = []) ∨ ((rowZ q.ids).length = q.ids.length * 1 ∧ ∃ ad, a1 = some ad ∧ ∀ k u, (rowZ q.ids)[k]? = some u → j.w.cell? (ad.add k) = some u) := by
      by_cases h0 : 0 < q.ids.length
      · obtain ⟨g2, o1, rfl, _, hg1, hc1⟩ := HIDS.out h0
        exact Or.inr ⟨by rw [rowZ_length, Nat.mul_one], _, rfl, src_rowZ fun k hk => (hij.cell (p := ⟨g2, o1 + k, none⟩) (by show g2 < _; omega)).trans (hc1 k hk).1⟩
      · exact Or.inl ⟨by omega, by rw [List.eq_nil_of_length_eq_zero (by omega : q.ids.length = 0)]; rfl⟩
    have HSRC := Lib.hid hsrc
    clear hij hsrc q3 q4
    go_wp2_with (at_builtin; refine wpList_append_gen rfl (.tmp 9) (.tmp 13) 22 rfl w.heap.size 3 i0 _ 1 8 Tryd.underlying22 hi0 hz0 hz1 hz2 rfl (by decide) (.slice b0 (idsX pre).length cap0) (idsX pre).length ((idsX pre).map (Value.int .i64)) rfl HRWj.out a1 q.ids.length c1' (rowZ q.ids) rfl HSRC.out (one_rowZ _) (by unfold maxLen; omega) (by omega) hszj ?_; intro b' cp' w1 hown hgrow; obtain ⟨m1, m2, m3, m4, m5⟩ := boxed_appended HVj.out (by decide) HRWj.out hszj (Nat.le_refl _) hown hgrow; have M2 := Lib.hid m2; have M3 := Lib.hid m3; have M4 := Lib.hid m4; have M5 := Lib.hid m5; have kc := m1.cell; have kf := m1.frozen; have KB := Lib.hid (fun b u (hb : Boxed W b 84 u) => other_box (B := w.heap.size) (v' := .slice b' ((idsX pre).length + q.ids.length) cp') (boxed_below hb HIJ.out) (by decide) HRWj.out hgrow (fun e => two_types (e ▸ hb) HV.out (by decide))); clear m1 m2 m3 m4 m5 hown hgrow)
    exact ⟨((KeepsFrom.of_grownBy (grown_of_below HIJ.out none) (fun _ h => by cases h)).trans (M4.out.from _)), ⟨(HIJ.out.mono hszW).trans M5.out, KB.out⟩, by rw [idsX_snoc, List.length_append, List.length_append]; exact hbnd, ⟨_, M2.out, by rw [idsX_snoc, List.length_append, List.map_append]; exact M3.out, trivial⟩, HBW.out.trans ((HIJ.out.mono hszW).trans M5.out)⟩
  case done =>
    rintro D ys W hD hys ⟨_, ⟨v, hv, hrow, _⟩, hBW⟩ hK
    have hids : idsX ys = allT n t := by rw [idsX, hys, pre_ids]
    rw [hids] at hrow
    have hvc := hv.cell
    obtain ⟨b0, cap0, rfl⟩ := own_form hrow
    have HROW := Lib.hid hrow
    have HBW := Lib.hid hBW
    clear hids hrow hv hBW hys
    gi_wp2
    refine ⟨by simp, .inl ⟨_, _, rfl, run_takeDeferred hK, ?_⟩⟩
    exact ⟨_, results_tmp rfl _ _ _, _, rfl, ownsRow_putObj HROW.out _ hK rfl, (hb3.trans HBW.out).trans (belowK_b (w := W4) hszn W D _ _ (by omega) hK rfl rfl)⟩
  case stop =>
    rintro D c pre W _ _ h _
    exact h.elim
/-- What TrieAll answers. -/
def alV (n : Nat) (t : Tr) : List Int := if trieB n t then allT n t else []
def alC (n : Nat) (t : Tr) : Int := if trieB n t then 0 else 1
theorem alV_len {n : Nat} {t : Tr} : (alV n t).length ≤ 16 := by
  unfold alV
  cases h : trieB n t with
  | false => simp
  | true =>
    unfold trieB at h
    simp only [Bool.and_eq_true, decide_eq_true_eq] at h
    simp [h.2.2.2.2]
def AllPost2 (w : World) (n : Nat) (t : Tr) (e : Ending) (w' : World) : Prop := ∃ v, e = .returned (.tuple #[v, .int .i64 (alC n t)]) ∧ NmIn w' w.heap.size w'.heap.size true v (alV n t) ∧ Below w.heap.size w w'
set_option maxRecDepth 100000 in
set_option maxHeartbeats 1000000 in
theorem specTrieAll_any (A B n : Nat) (z : Bool) (t : Tr) (vi vk : Value) (w : World) (hwt : wtT n t ≤ 1048576) (hn : n ≤ 1100000) (hB : B ≤ w.heap.size) (h : NodeIn w A B z n t vi vk) : Calls Tryd.prog 14 #[.agg #[.string t.l, vi, vk]] w (AllPost2 w n t) := by
  obtain ⟨⟨ai, li, ci, rfl⟩, ak, lk, ck, rfl⟩ := h.forms
  have hb0 := (Below.refl w.heap.size w).alloc (Nat.le_refl _) (.cells #[.string t.l, .slice ai li ci, .slice ak lk ck] 30)
  have HB0 := Lib.hid hb0
  have HN := Lib.hid (h.below hb0 hB)
  have hsz : B ≤ (w.alloc (.cells #[.string t.l, .slice ai li ci, .slice ak lk ck] 30)).heap.size := by simp; omega
  have HP0 := Lib.hid (NdB.new w 30 t.l (.slice ai li ci) (.slice ak lk ck))
  have HS := Lib.hid (specOK_any A B n z t _ _ _ hwt hn hsz HN.out)
  obtain ⟨c0, c1, c2⟩ := HP0.out.at
  clear h hb0
  cases hv : trieB n t with
  | false =>
    have HV : Hid (alV n t = [] ∧ alC n t = 1) := Lib.hid (by unfold alV alC; rw [hv]; exact ⟨rfl, rfl⟩)
    rw [hv] at HS
    clear hv
    go_enter Tryd.func14, Tryd.ntmps14
    go_wp2_with fail
    refine HS.out.mono ?_
    rintro e w1 ⟨rfl, hb⟩
    have HB1 := Lib.hid (HB0.out.trans (hb.mono HB0.out.size))
    clear hb
    go_wp2_with fail
    go_ret2
    exact ⟨_, by rw [HV.out.2]; rfl, by rw [HV.out.1]; exact nilNm_in _ _ _ _ _ _ (Nat.zero_le _), HB1.out.alloc HB1.out.size _⟩
  | true =>
    have HV : Hid (alV n t = allT n t ∧ alC n t = 0) := Lib.hid (by unfold alV alC; rw [hv]; exact ⟨rfl, rfl⟩)
    rw [hv] at HS
    clear hv
    go_enter Tryd.func14, Tryd.ntmps14
    go_wp2_with fail
    refine HS.out.mono ?_
    rintro e w1 ⟨rfl, hb⟩
    have HB1 := Lib.hid (HB0.out.trans (hb.mono HB0.out.size))
    have HP1 := Lib.hid (HP0.out.stays hb)
    have HN1 := Lib.hid (HN.out.below hb hsz)
    have hsz1 := Nat.le_trans hsz hb.size
    clear hb c0 c1 c2
    obtain ⟨c0, c1, c2⟩ := HP1.out.at
    go_wp2_with fail
    refine (specAll_any A B z n t _ _ w1 hwt hsz1 HN1.out).mono ?_
    rintro e w2 ⟨g, cap, rfl, hown, hb⟩
    have HB2 := Lib.hid (HB1.out.trans (hb.mono HB1.out.size))
    have HO := Lib.hid ((own_nm hown).more HB1.out.size (Nat.le_refl _))
    clear hown hb
    go_wp2_with fail
    go_ret2
    exact ⟨_, by rw [HV.out.2]; rfl, by rw [HV.out.1]; exact HO.out, HB2.out⟩
set_option maxRecDepth 100000 in
set_option maxHeartbeats 1000000 in
theorem implTrieAll_any (A B n : Nat) (z : Bool) (t : Tr) (vi vk : Value) (w : World) (hm : t.l.size ≤ maxLen) (hwt : wtT n t ≤ 1048576) (hn : n ≤ 1100000) (hB : B ≤ w.heap.size) (h : NodeIn w A B z n t vi vk) (hT : TabAt w) : Calls Tryd.prog 15 #[.agg #[.string t.l, vi, vk]] w (AllPost2 w n t) := by
  obtain ⟨⟨ai, li, ci, rfl⟩, ak, lk, ck, rfl⟩ := h.forms
  have hb0 := (Below.refl w.heap.size w).alloc (Nat.le_refl _) (.cells #[.string t.l, .slice ai li ci, .slice ak lk ck] 30)
  have HB0 := Lib.hid hb0
  have HN := Lib.hid (h.below hb0 hB)
  have hsz : B ≤ (w.alloc (.cells #[.string t.l, .slice ai li ci, .slice ak lk ck] 30)).heap.size := by simp; omega
  have HP0 := Lib.hid (NdB.new w 30 t.l (.slice ai li ci) (.slice ak lk ck))
  have HS := Lib.hid (implTrieOK_any A B n z t _ _ _ hm hwt hn hsz HN.out (hT.below hb0))
  obtain ⟨c0, c1, c2⟩ := HP0.out.at
  clear h hb0 hT
  cases hv : trieB n t with
  | false =>
    have HV : Hid (alV n t = [] ∧ alC n t = 1) := Lib.hid (by unfold alV alC; rw [hv]; exact ⟨rfl, rfl⟩)
    rw [hv] at HS
    clear hv
    go_enter Tryd.func15, Tryd.ntmps15
    go_wp2_with fail
    refine HS.out.mono ?_
    rintro e w1 ⟨rfl, hb⟩
    have HB1 := Lib.hid (HB0.out.trans (hb.mono HB0.out.size))
    clear hb
    go_wp2_with fail
    go_ret2
    exact ⟨_, by rw [HV.out.2]; rfl, by rw [HV.out.1]; exact nilNm_in _ _ _ _ _ _ (Nat.zero_le _), HB1.out⟩
  | true =>
    have HV : Hid (alV n t = allT n t ∧ alC n t = 0) := Lib.hid (by unfold alV alC; rw [hv]; exact ⟨rfl, rfl⟩)
    rw [hv] at HS
    clear hv
    go_enter Tryd.func15, Tryd.ntmps15
    go_wp2_with fail
    refine HS.out.mono ?_
    rintro e w1 ⟨rfl, hb⟩
    have HB1 := Lib.hid (HB0.out.trans (hb.mono HB0.out.size))
    have hN1 := HN.out.below hb hsz
    obtain ⟨d0, d1, d2⟩ := (HP0.out.stays hb).at
    have hlt := (HP0.out.stays hb).lt
    have HA : Hid (NodeAt w1 w1.heap.size A B n z w.heap.size 0 t) := Lib.hid ⟨hm, hlt, d0, _, _, d1, d2, hN1⟩
    have hszB := Nat.le_trans hsz hb.size
    clear hb c0 c1 c2 d0 d1 d2 hN1
    go_wp2_with fail
    refine (allIds_any w1.heap.size A B n w.heap.size 0 z t w1 hszB (Nat.le_refl _) HA.out hwt hn).mono ?_
    rintro e w2 ⟨v, rfl, hown, hb⟩
    have HB2 := Lib.hid (HB1.out.trans (hb.mono HB1.out.size))
    have HO := Lib.hid ((own_nm hown).more HB1.out.size (Nat.le_refl _))
    clear hown hb
    go_wp2_with fail
    go_ret2
    exact ⟨v, by rw [HV.out.2]; rfl, by rw [HV.out.1]; exact HO.out, HB2.out⟩
end Go.Proofs.YtcaabnnkjnleeaaDoor
