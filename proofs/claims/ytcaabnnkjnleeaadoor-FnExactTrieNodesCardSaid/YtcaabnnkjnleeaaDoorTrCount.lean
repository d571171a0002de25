/- TrieNodes of the program and of the model: what they answer. No condition of its own. -/
import Derived.Test.YtcaabnnkjnleeaaDoorTrLaw
namespace Go.Proofs.YtcaabnnkjnleeaaDoor
open Go.ChangeShapes Go.WideShapes Go.ChangeAt Go.WideMaps Go.WideElems Go.RowKit Go.Shelf

attribute [local go_sem] Oper.semAt_some

/-- What TrieNodes answers. -/
def nodV (n : Nat) (t : Tr) : Int := if trieB n t then (cntT n t : Int) - 1 else 0
def nodC (n : Nat) (t : Tr) : Int := if trieB n t then 0 else 1
theorem trie_cnt {n : Nat} {t : Tr} (h : trieB n t = true) : cntT n t ≤ 97 ∧ 1 ≤ cntT n t := by
  unfold trieB at h
  simp only [Bool.and_eq_true, decide_eq_true_eq] at h
  obtain ⟨_, h2, h3, _⟩ := h
  refine ⟨?_, ?_⟩
  · by_cases hc : (cntT n t : Int) ≤ 97
    · omega
    · have := (wid_cnt n t 97).2 (by omega)
      omega
  · cases n with
    | zero => simp [okT] at h3
    | succ n => rw [cntT]; omega
set_option maxRecDepth 100000 in
theorem specNodes_any (A B n : Nat) (z : Bool) (t : Tr) (vi vk : Value) (w : World) (hwt : wtT n t ≤ 1048576) (hn : n ≤ 1100000) (hB : B ≤ w.heap.size) (h : NodeIn w A B z n t vi vk) : Calls Tryd.prog 20 #[.agg #[.string t.l, vi, vk]] w fun e w' => e = .returned (.tuple #[.int .i64 (nodV n t), .int .i64 (nodC n t)]) ∧ Below w.heap.size w w' := by
  obtain ⟨⟨ai, li, ci, rfl⟩, ak, lk, ck, rfl⟩ := h.forms
  have hb0 := (Below.refl w.heap.size w).alloc (Nat.le_refl _) (.cells #[.string t.l, .slice ai li ci, .slice ak lk ck] 30)
  have HB0 := Lib.hid hb0
  have HN := Lib.hid (h.below hb0 hB)
  have hsz : B ≤ (w.alloc (.cells #[.string t.l, .slice ai li ci, .slice ak lk ck] 30)).heap.size := by simp; omega
  have HP0 := Lib.hid (NdB.new w 30 t.l (.slice ai li ci) (.slice ak lk ck))
  obtain ⟨c0, c1, c2⟩ := HP0.out.at
  clear h hb0
  cases hv : trieB n t with
  | false =>
    have HV : Hid (nodV n t = 0 ∧ nodC n t = 1) := Lib.hid (by unfold nodV nodC; rw [hv]; exact ⟨rfl, rfl⟩)
    have HS := Lib.hid (specOK_any A B n z t _ _ _ hwt hn hsz HN.out)
    rw [hv] at HS
    clear hv
    go_enter Tryd.func20, Tryd.ntmps20
    go_wp2_with fail
    refine HS.out.mono ?_
    rintro e w1 ⟨rfl, hb⟩
    have HB1 := Lib.hid (HB0.out.trans (hb.mono HB0.out.size))
    clear hb
    go_wp2_with fail
    go_ret2
    exact ⟨by rw [HV.out.1, HV.out.2]; rfl, HB1.out⟩
  | true =>
    obtain ⟨h97, h1⟩ := trie_cnt hv
    have HV : Hid (nodV n t = (cntT n t : Int) - 1 ∧ nodC n t = 0) := Lib.hid (by unfold nodV nodC; rw [hv]; exact ⟨rfl, rfl⟩)
    have HS := Lib.hid (specOK_any A B n z t _ _ _ hwt hn hsz HN.out)
    rw [hv] at HS
    have HWd : Hid (widT n t 4096 = (cntT n t : Int)) := Lib.hid ((wid_cnt n t 4096).1 (by omega))
    have s1 : IntKind.i64.wrap ((cntT n t : Int) - 1) = (cntT n t : Int) - 1 := by rw [IntKind.wrap_i64]; omega
    clear hv
    go_enter Tryd.func20, Tryd.ntmps20
    go_wp2_with fail
    refine HS.out.mono ?_
    rintro e w1 ⟨rfl, hb⟩
    have HB1 := Lib.hid (HB0.out.trans (hb.mono HB0.out.size))
    have HP1 := Lib.hid (HP0.out.stays hb)
    have HN1 := Lib.hid (HN.out.below hb hsz)
    have hsz1 := Nat.le_trans hsz hb.size
    clear hb c0 c1 c2
    obtain ⟨c0, c1, c2⟩ := HP1.out.at
    go_wp2_with fail
    refine (specWidth_any A B z n t _ _ 4096 w1 hwt (by omega) (by omega) hsz1 HN1.out).mono ?_
    rintro e w2 ⟨rfl, hb⟩
    rw [HWd.out]
    have HB2 := Lib.hid (HB1.out.trans (hb.mono HB1.out.size))
    clear hb
    go_wp2_with fail
    go_ret2
    exact ⟨by rw [HV.out.1, HV.out.2]; rfl, HB2.out⟩
def CoI (w0 : World) (C A B : Nat) (z : Bool) (Bc n₀ : Nat) (pre : List (TrX w0 C A B z)) (W : World) : Prop := Boxed W Bc 3 (.int .i64 (pre.length : Int)) ∧ Below n₀ w0 W
theorem co_own {w0 : World} {C A B Bc n₀ L : Nat} {z : Bool} (hn : n₀ ≤ w0.heap.size) (hL : n₀ ≤ L) : OwnFrom L (CoI w0 C A B z Bc n₀) :=
  OwnFrom.and (Own.from (boxed_own Bc 3 (fun pre : List (TrX w0 C A B z) => .int .i64 ((pre.length : Nat) : Int))) _) (ownFrom_below hn hL)
set_option maxHeartbeats 2000000 in
set_option maxRecDepth 100000 in
theorem implNodes_any (A B n : Nat) (z : Bool) (t : Tr) (vi vk : Value) (w : World) (hm : t.l.size ≤ maxLen) (hwt : wtT n t ≤ 1048576) (hn : n ≤ 1100000) (hB : B ≤ w.heap.size) (h : NodeIn w A B z n t vi vk) (hT : TabAt w) : Calls Tryd.prog 21 #[.agg #[.string t.l, vi, vk]] w fun e w' => e = .returned (.tuple #[.int .i64 (nodV n t), .int .i64 (nodC n t)]) ∧ Below w.heap.size w w' := by
  obtain ⟨⟨ai, li, ci, rfl⟩, ak, lk, ck, rfl⟩ := h.forms
  have hb0 := (Below.refl w.heap.size w).alloc (Nat.le_refl _) (.cells #[.string t.l, .slice ai li ci, .slice ak lk ck] 30)
  have HB0 := Lib.hid hb0
  have HN := Lib.hid (h.below hb0 hB)
  have hsz : B ≤ (w.alloc (.cells #[.string t.l, .slice ai li ci, .slice ak lk ck] 30)).heap.size := by simp; omega
  have HP0 := Lib.hid (NdB.new w 30 t.l (.slice ai li ci) (.slice ak lk ck))
  have HT := Lib.hid (hT.below hb0)
  obtain ⟨c0, c1, c2⟩ := HP0.out.at
  clear h hb0 hT
  cases hv : trieB n t with
  | false =>
    have HV : Hid (nodV n t = 0 ∧ nodC n t = 1) := Lib.hid (by unfold nodV nodC; rw [hv]; exact ⟨rfl, rfl⟩)
    have HS := Lib.hid (implTrieOK_any A B n z t _ _ _ hm hwt hn hsz HN.out HT.out)
    rw [hv] at HS
    clear hv
    go_enter Tryd.func21, Tryd.ntmps21
    go_wp2_with fail
    refine HS.out.mono ?_
    rintro e w1 ⟨rfl, hb⟩
    have HB1 := Lib.hid (HB0.out.trans (hb.mono HB0.out.size))
    clear hb
    go_wp2_with fail
    go_ret2
    exact ⟨by rw [HV.out.1, HV.out.2]; rfl, HB1.out⟩
  | true =>
    obtain ⟨h97, h1⟩ := trie_cnt hv
    have HV : Hid (nodV n t = (cntT n t : Int) - 1 ∧ nodC n t = 0) := Lib.hid (by unfold nodV nodC; rw [hv]; exact ⟨rfl, rfl⟩)
    have HS := Lib.hid (implTrieOK_any A B n z t _ _ _ hm hwt hn hsz HN.out HT.out)
    rw [hv] at HS
    have s1 : IntKind.i64.wrap ((cntT n t : Int) - 1) = (cntT n t : Int) - 1 := by rw [IntKind.wrap_i64]; omega
    clear hv
    refine (callsIn_wide (n := 6)).1 ?_
    refine callsIn_of_wp_marks Tryd.func21 rfl trivial ?_ rfl
    simp only [Tryd.ntmps21, List.size_toArray, List.length_cons, List.length_nil, Nat.reduceAdd, Nat.reduceSub, Array.replicate_succ, Array.replicate_zero, List.push_toArray, List.append_toArray, List.nil_append, List.cons_append]
    gi_wp2_with fail
    refine ⟨trivial, (callsIn_wide.2 HS.out).mono ?_⟩
    rintro e w1 ⟨rfl, hb⟩
    have hB1 := HB0.out.trans (hb.mono HB0.out.size)
    have P1 := HP0.out.stays hb
    have N1 := HN.out.below hb hsz
    clear hb c0 c1 c2
    gi_wp2_with fail
    refine ⟨trivial, (callsIn_wide.2 (nodes_any _ _ ⟨_, rfl⟩)).mono ?_⟩
    rintro e w4 ⟨rfl, hw4⟩
    gi_wp2_with fail
    subst hw4
    have hsw := hB1.size
    have hlt := P1.lt
    have hB3 := ((hB1.alloc hsw (.cells #[.int .i64 0] 3)).alloc (by simp; omega) (.cells #[.pointer (some ⟨w.heap.size, 0, none⟩)] 67))
    have X0 := (P1.alloc (.cells #[.int .i64 0] 3)).alloc (.cells #[.pointer (some ⟨w.heap.size, 0, none⟩)] 67)
    have X1 := (Boxed.new w1 3 (.int .i64 0)).alloc (.cells #[.pointer (some ⟨w.heap.size, 0, none⟩)] 67)
    have X3 := Boxed.new (w1.alloc (.cells #[.int .i64 0] 3)) 67 (.pointer (some ⟨w.heap.size, 0, none⟩))
    have N3 := N1.below (((Below.refl w1.heap.size w1).alloc (Nat.le_refl _) (.cells #[.int .i64 0] 3)).alloc (by simp) (.cells #[.pointer (some ⟨w.heap.size, 0, none⟩)] 67)) (by omega)
    simp only [World.size_alloc] at X1 X3
    have hsz4 : ((w1.alloc (.cells #[.int .i64 0] 3)).alloc (.cells #[.pointer (some ⟨w.heap.size, 0, none⟩)] 67)).heap.size = w1.heap.size + 1 + 1 := by simp
    obtain ⟨W4, hW4⟩ : ∃ W4, (w1.alloc (.cells #[.int .i64 0] 3)).alloc (.cells #[.pointer (some ⟨w.heap.size, 0, none⟩)] 67) = W4 := ⟨_, rfl⟩
    rw [hW4] at hB3 X0 X1 X3 N3 hsz4 ⊢
    clear hW4
    obtain ⟨c0, c1, c2⟩ := X0.at
    have hroot : NodeAt W4 w1.heap.size A B n z w.heap.size 0 t := ⟨hm, hlt, c0, _, _, c1, c2, N3⟩
    have hszB : B ≤ w1.heap.size := by omega
    refine wpIn_rangeFunc_ownG rfl (by decide) (gf := 71) (lb := #[.pointer (some ⟨w1.heap.size + 1, 0, none⟩)]) rfl trivial (enters_of Tryd.func71 (by kernel_rfl) rfl)
      (nodes_stops W4 w1.heap.size A B z hszB 5 w1.heap.size (w1.heap.size + 1) n w.heap.size 0 t (Nat.le_refl _) W4 (by omega) (Below.refl _ _) hroot hwt (by omega) X3.cell) KpV.trans (KpV.put (by omega)) (Below.refl _ _) (fun _ => rfl)
      (CoI W4 w1.heap.size A B z w1.heap.size w1.heap.size) (fun _ _ _ => False) (co_own (by omega) (by omega)) (fun _ _ _ _ _ hs _ _ => hs)
      ⟨X1, Below.refl _ _⟩
      (fun x => { tmps := #[.agg #[.string t.l, .slice ai li ci, .slice ak lk ck], .pointer (some ⟨w.heap.size, 0, none⟩), .int .i64 0, .int .i64 0, .pointer (some ⟨w1.heap.size, 0, none⟩), .agg #[.string t.l, .slice ai li ci, .slice ak lk ck], .bool true, .bool false, .func (.func 71) #[] #[.pointer (some ⟨w1.heap.size + 1, 0, none⟩)], .pointer (some ⟨x.1.g, x.1.off, none⟩), .int .i64 x.1.d, undef, undef, undef, undef], defers := [] }) ?assign ?body ?done ?stop
    case assign =>
      intro l x W K hK
      gi_wp2
      simpa using hK
    case body =>
      rintro l pre x W ⟨hc, hBW⟩ hlt
      have hcc := hc.cell
      have hcf := hc.frozen
      have s2 : IntKind.i64.wrap (((pre.length : Nat) : Int) + 1) = ((pre.length : Nat) : Int) + 1 := by rw [IntKind.wrap_i64]; omega
      have HC := Lib.hid hc
      have HBW := Lib.hid hBW
      clear hc hBW
      gi_wp2
      refine ⟨(KeepsOthers.setCell _ _ _).from _, ⟨(Below.refl _ W).setCell (p := ⟨w1.heap.size, 0, none⟩) (Nat.le_refl _) _, fun b u hb => hb.kept (grownBy_setCell' W w1.heap.size _) (fun e => two_types (Option.some.inj e ▸ hb) HC.out (by decide))⟩, ?_, HBW.out.setCell (p := ⟨w1.heap.size, 0, none⟩) (Nat.le_refl _) _⟩
      rw [List.length_append]
      exact HC.out.set _
    case done =>
      rintro D ys W hD hys ⟨hc, hBW⟩ hK
      have hlen : ys.length = cntT n t := by
        have := congrArg List.length hys
        rw [List.length_map, pre_len] at this
        exact this
      rw [hlen] at hc
      have hcc := hc.cell
      have HC := Lib.hid hc
      have HBW := Lib.hid hBW
      clear hc hBW hys hlen
      gi_wp2
      refine ⟨by simp, .inl ⟨_, _, rfl, run_takeDeferred hK, ?_⟩⟩
      refine ⟨.tuple #[.int .i64 ((cntT n t : Int) - 1), .int .i64 0], ?_, by rw [HV.out.1, HV.out.2], (hB3.trans (HBW.out.mono (by omega))).trans (belowK_b (w := W4) hB3.size W D _ _ (by omega) hK rfl rfl)⟩
      simp [results, Tryd.results21, go_sem]
    case stop =>
      rintro D c pre W _ _ h _
      exact h.elim
end Go.Proofs.YtcaabnnkjnleeaaDoor
