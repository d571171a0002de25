/- The program's TrieOK: what it answers. No condition of its own. -/
import Derived.Test.YtcaabnnkjnleeaaDoorTrVisit
import Derived.Test.YtcaabnnkjnleeaaDoorRndReg
import Derived.Test.YtcaabnnkjnleeaaDoorHpNums
import Derived.Test.YtcaabnnkjnleeaaDoorTrAll
import Derived.Test.YtcaabnnkjnleeaaDoorBoxes
import Derived.Test.YtcaabnnkjnleeaaDoorAppGen
import Derived.Test.YtcaabnnkjnleeaaDoorRiseSort
namespace Go.Proofs.YtcaabnnkjnleeaaDoor
open Go.ChangeShapes Go.WideShapes Go.ChangeAt Go.WideMaps Go.WideElems Go.RowKit Go.Shelf

attribute [local go_sem] Oper.semAt_some

/-- The numbers of the nodes that have come. -/
def idsX {w0 : World} {C A B : Nat} {z : Bool} (pre : List (TrX w0 C A B z)) : List Int := (pre.map tdX).flatMap fun x => x.1.ids
def TrI (w0 : World) (C A B : Nat) (z : Bool) (Br Bi n₀ : Nat) (pre : List (TrX w0 C A B z)) (W : World) : Prop :=
  walkB (pre.map tdX) = true ∧ ((∃ v, Boxed W Bi 22 v ∧ W.ownsRow n₀ 3 1 v (idsX pre).length ((idsX pre).map (Value.int .i64)) ∧ True) ∧ (Boxed W Br 4 (.bool false) ∧ Below n₀ w0 W))
def TrIx (w0 : World) (C A B : Nat) (z : Bool) (Br n₀ : Nat) (c : Code) (pre : List (TrX w0 C A B z)) (W : World) : Prop :=
  (c = .ret ∧ walkB (pre.map tdX) = false) ∧ (Boxed W Br 4 (.bool false) ∧ Below n₀ w0 W)
theorem ids_light {n : Nat} {q : Tr} (h : wtT (n + 1) q ≤ 1048576) : q.ids.length ≤ 1048576 := by
  have h2 : wtT (n + 1) q = q.l.size + q.ids.length + (q.ks.length + (q.ks.map (wtT n)).sum) := rfl
  omega
theorem ints_nums {w : World} {A B C cap : Nat} {z : Bool} {a : Option Addr} {zs : List Int} (_ : zs.length ≤ cap) (h : 0 < zs.length → ∃ g off, a = some ⟨g, off, none⟩ ∧ A ≤ g ∧ g < B ∧ ∀ j (hj : j < zs.length), w.cell? ⟨g, off + j, none⟩ = some (.int .i64 zs[j]) ∧ (z = true → w.frozen? ⟨g, off + j, none⟩ = false)) (hB : B ≤ C) (hC : C ≤ w.heap.size := by omega) : NumsIn w (.slice a zs.length cap) zs := by
  refine ⟨a, cap, rfl, fun h0 => ?_⟩
  obtain ⟨g, off, rfl, _, hg, hc⟩ := h h0
  exact ⟨g, off, rfl, by omega, fun j hj => (hc j hj).1⟩
theorem rise_inc : ∀ zs : List Int, riseB zs = incB zs
  | [] => rfl
  | [_] => rfl
  | a :: b :: r => by rw [riseB, incB, rise_inc (b :: r)]
theorem idsX_snoc {w0 : World} {C A B : Nat} {z : Bool} (pre : List (TrX w0 C A B z)) (x : TrX w0 C A B z) : idsX (pre ++ [x]) = idsX pre ++ x.1.t.ids := by
  simp [idsX, tdX]
theorem nodup_rise (zs : List Int) : nodupB zs = riseB (sortI zs) := by
  rw [Bool.eq_iff_iff, nodup_iff, rise_sort]
theorem own_nums {w : World} {base : Nat} {v : Value} {zs : List Int} (h : w.ownsRow base 3 1 v zs.length (zs.map (Value.int .i64))) : NumsIn w v zs := by
  rcases row_holds h with ⟨rfl, hz⟩ | ⟨g, cap, rfl, _, hg, hH⟩
  · rw [List.eq_nil_of_length_eq_zero hz]
    exact ⟨none, 0, rfl, fun h => absurd h (by simp)⟩
  · refine ⟨_, cap, rfl, fun h0 => ⟨g, 0, rfl, hg, fun j hj => ?_⟩⟩
    have := (hH j (by simpa using hj)).1
    rw [this]
    simp [hj]
theorem trI_own {w0 : World} {C A B Br Bi n₀ L : Nat} {z : Bool} (hn : n₀ ≤ w0.heap.size) (hL : n₀ ≤ L) : OwnFrom L (TrI w0 C A B z Br Bi n₀) :=
  OwnFrom.and (ownFrom_pure _ _) (OwnFrom.and (Own.from (holdsRow_own n₀ Bi 22 3 1 (fun pre => (idsX pre).length) (fun pre => (idsX pre).map (Value.int .i64)) (fun _ _ => True)) _) (OwnFrom.and (Own.from (boxed_own Br 4 (fun _ => .bool false)) _) (ownFrom_below hn hL)))
theorem trIx_own {w0 : World} {C A B Br n₀ L : Nat} {z : Bool} (hn : n₀ ≤ w0.heap.size) (hL : n₀ ≤ L) (c : Code) : OwnFrom L (TrIx w0 C A B z Br n₀ c) :=
  OwnFrom.and (ownFrom_pure _ _) (OwnFrom.and (Own.from (boxed_own Br 4 (fun _ => .bool false)) _) (ownFrom_below hn hL))
set_option maxHeartbeats 2000000 in
set_option maxRecDepth 100000 in
theorem implTrieOK_any (A B n : Nat) (z : Bool) (t : Tr) (vi vk : Value) (w : World) (hm : t.l.size ≤ maxLen) (hwt : wtT n t ≤ 1048576) (hn : n ≤ 1100000) (hB : B ≤ w.heap.size) (h : NodeIn w A B z n t vi vk) (hT : TabAt w) : Calls Tryd.prog 12 #[.agg #[.string t.l, vi, vk]] w fun e w' => e = .returned (.bool (trieB n t)) ∧ Below w.heap.size w w' := by
  obtain ⟨⟨ai, li, ci, rfl⟩, ak, lk, ck, rfl⟩ := h.forms
  have HE := Lib.hid (trie_walk n t (node_deep h))
  have HN := Lib.hid h
  have HT := Lib.hid hT
  clear h hT
  have hB0 := (Below.refl w.heap.size w).alloc (Nat.le_refl _) (.cells #[.string t.l, .slice ai li ci, .slice ak lk ck] 30)
  cases hl : t.l.toList.isEmpty with
  | true =>
    refine (callsIn_wide (n := 6)).1 ?_
    refine callsIn_of_wp_marks Tryd.func12 rfl trivial ?_ rfl
    simp only [Tryd.ntmps12, List.size_toArray, List.length_cons, List.length_nil, Nat.reduceAdd, Nat.reduceSub, Array.replicate_succ, Array.replicate_zero, List.push_toArray, List.append_toArray, List.nil_append, List.cons_append]
    gi_wp2_with fail
    refine ⟨trivial, (callsIn_wide.2 (nodes_any _ _ ⟨_, rfl⟩)).mono ?_⟩
    rintro e w4 ⟨rfl, hw4⟩
    gi_wp2_with fail
    subst hw4
    have hB3 := (((hB0.alloc (by simp) (.cells #[.bool false] 4)).alloc (by simp; omega) (.cells #[.slice none 0 0] 22)).alloc (by simp; omega) (.cells #[.pointer (some ⟨w.heap.size, 0, none⟩)] 67))
    have X0 : ((((w.alloc (.cells #[.string t.l, .slice ai li ci, .slice ak lk ck] 30)).alloc (.cells #[.bool false] 4)).alloc (.cells #[.slice none 0 0] 22)).alloc (.cells #[.pointer (some ⟨w.heap.size, 0, none⟩)] 67)).heap[w.heap.size]? = some (.cells #[.string t.l, .slice ai li ci, .slice ak lk ck] 30 (0, 0)) := by
      rw [Below.heap_alloc _ _ _ (by simp; omega), Below.heap_alloc _ _ _ (by simp; omega), Below.heap_alloc _ _ _ (by simp)]
      exact heap_alloc_new _ _
    have X1 := ((Boxed.new (w.alloc (.cells #[.string t.l, .slice ai li ci, .slice ak lk ck] 30)) 4 (.bool false)).alloc (.cells #[.slice none 0 0] 22)).alloc (.cells #[.pointer (some ⟨w.heap.size, 0, none⟩)] 67)
    have X2 := (Boxed.new ((w.alloc (.cells #[.string t.l, .slice ai li ci, .slice ak lk ck] 30)).alloc (.cells #[.bool false] 4)) 22 (.slice none 0 0)).alloc (.cells #[.pointer (some ⟨w.heap.size, 0, none⟩)] 67)
    have X3 := Boxed.new (((w.alloc (.cells #[.string t.l, .slice ai li ci, .slice ak lk ck] 30)).alloc (.cells #[.bool false] 4)).alloc (.cells #[.slice none 0 0] 22)) 67 (.pointer (some ⟨w.heap.size, 0, none⟩))
    simp only [World.size_alloc] at X1 X2 X3
    have hsz : ((((w.alloc (.cells #[.string t.l, .slice ai li ci, .slice ak lk ck] 30)).alloc (.cells #[.bool false] 4)).alloc (.cells #[.slice none 0 0] 22)).alloc (.cells #[.pointer (some ⟨w.heap.size, 0, none⟩)] 67)).heap.size = w.heap.size + 1 + 1 + 1 + 1 := by simp
    obtain ⟨W4, hW4⟩ : ∃ W4, (((w.alloc (.cells #[.string t.l, .slice ai li ci, .slice ak lk ck] 30)).alloc (.cells #[.bool false] 4)).alloc (.cells #[.slice none 0 0] 22)).alloc (.cells #[.pointer (some ⟨w.heap.size, 0, none⟩)] 67) = W4 := ⟨_, rfl⟩
    rw [hW4] at hB3 X0 X1 X2 X3 hsz ⊢
    clear hW4 hB0
    obtain ⟨c0, c1, c2⟩ := node_cells X0
    have hroot : NodeAt W4 (w.heap.size + 1) A B n z w.heap.size 0 t := ⟨hm, by omega, c0, _, _, c1, c2, HN.out.below hB3 hB⟩
    -- LOOP
    have hsz1 : w.heap.size + 1 ≤ W4.heap.size := by omega
    obtain ⟨i0, hi0, hz0, hz1, hz2⟩ := info_parts info_int
    refine wpIn_rangeFunc_ownG rfl (by decide) (gf := 71) (lb := #[.pointer (some ⟨w.heap.size + 1 + 1 + 1, 0, none⟩)]) rfl trivial (enters_of Tryd.func71 (by kernel_rfl) rfl)
      (nodes_stops W4 (w.heap.size + 1) A B z (by omega) 5 (w.heap.size + 1) (w.heap.size + 1 + 1 + 1) n w.heap.size 0 t (Nat.le_refl _) W4 hsz1 (Below.refl _ _) hroot hwt (by omega) X3.cell) KpV.trans (KpV.put hsz1) (Below.refl _ _) (fun _ => rfl)
      (TrI W4 (w.heap.size + 1) A B z (w.heap.size + 1) (w.heap.size + 1 + 1) (w.heap.size + 1)) (TrIx W4 (w.heap.size + 1) A B z (w.heap.size + 1) (w.heap.size + 1)) (trI_own hsz1 (by omega)) (trIx_own hsz1 (by omega))
      ⟨by simp [walkB], ⟨_, X2, World.ownsRow_nil _ _ _ _, trivial⟩, X1, Below.refl _ _⟩
      (fun x => { tmps := #[.agg #[.string t.l, .slice ai li ci, .slice ak lk ck], .pointer (some ⟨w.heap.size, 0, none⟩), .pointer (some ⟨w.heap.size + 1, 0, none⟩), .pointer (some ⟨w.heap.size + 1 + 1, 0, none⟩), .pointer (some ⟨x.1.g, x.1.off, none⟩), .int .i64 x.1.d, .pointer (some ⟨w.heap.size, 0, none⟩), .string t.l, .bool false, .func (.func 71) #[] #[.pointer (some ⟨w.heap.size + 1 + 1 + 1, 0, none⟩)], .pointer (some ⟨x.1.g, x.1.off, none⟩), .int .i64 x.1.d, undef, undef, undef, undef, undef, undef, undef, undef, undef, undef, undef, undef, undef, undef, undef, undef, undef, undef, undef, undef, undef, undef, undef, undef, undef, undef, undef, undef, undef, undef, undef, undef, undef, undef, undef, undef, undef, undef, undef, undef, undef, undef], defers := [] }) ?assign ?body ?done ?stop
    case assign =>
      intro l x W K hK
      gi_wp2
      exact hK
    case body =>
      rintro l pre ⟨⟨g, off, q, d⟩, hg⟩ W ⟨hwk, ⟨v, hv, hrow, _⟩, hres, hBW⟩ _
      obtain ⟨⟨mm, hq0, hwq⟩, hd0, hd1⟩ := id hg
      dsimp only at hq0 hwq hd0 hd1
      have hq := hq0.below hBW (Nat.le_refl _) (by omega)
      have hszW : w.heap.size + 1 ≤ W.heap.size := Nat.le_trans hsz1 hBW.size
      have hTW := HT.out.below (hB3.trans (hBW.mono (by omega)))
      obtain ⟨vi1, k1, hin⟩ := hq.ids
      obtain ⟨a1, c1', rfl, hcl, hcm, hids⟩ := hin
      have HWS : Hid (walkB ((pre ++ [(⟨⟨g, off, q, d⟩, hg⟩ : TrX W4 (w.heap.size + 1) A B z)]).map tdX) = (lookB q d && decide ((idsX pre).length + q.ids.length ≤ 16))) := Lib.hid (by
        rw [List.map_append, List.map_singleton]
        show walkB (pre.map tdX ++ [(q, d)]) = _
        rw [walk_snoc, hwk]
        rfl)
      have h16 : (idsX pre).length ≤ 16 := by
        unfold walkB at hwk
        simp only [Bool.and_eq_true, decide_eq_true_eq] at hwk
        exact hwk.2
      obtain ⟨be, hbe⟩ : ∃ be, (!fullB q) = be := ⟨_, rfl⟩
      obtain ⟨bk, hbk⟩ : ∃ bk, kidsB q = bk := ⟨_, rfl⟩
      obtain ⟨bi, hbi⟩ : ∃ bi, incB q.ids = bi := ⟨_, rfl⟩
      have HE1 : Hid (∀ i : BCl W, Calls Tryd.prog 43 #[.pointer (some ⟨g, off, none⟩)] i.w fun e w' => e = .returned (.bool be) ∧ Below i.w.heap.size i.w w') := Lib.hid (fun i => by
        rw [← hbe]
        exact isEmpty_any _ A B mm g off z q i.w (hq.below i.below (by omega) (by omega)) (by omega))
      have HK1 : Hid (∀ i : BCl W, Calls Tryd.prog 44 #[.pointer (some ⟨g, off, none⟩)] i.w fun e w' => e = .returned (.bool bk) ∧ Below i.w.heap.size i.w w') := Lib.hid (fun i => by
        rw [← hbk]
        exact kidsOK_any _ A B mm g off z q i.w (hq.below i.below (by omega) (by omega)) (by omega) (Nat.le_trans hszW i.below.size) hwq (hTW.below i.below))
      have HI1 : Hid (∀ i : BCl W, Calls Tryd.prog 45 #[.slice a1 q.ids.length c1'] i.w fun e w' => e = .returned (.bool bi) ∧ Below i.w.heap.size i.w w') := Lib.hid (fun i => by
        rw [← hbi, ← rise_inc]
        exact rising_any _ q.ids i.w (by have := ids_light hwq; omega) (NumsIn.below (ints_nums hcl hids (by omega)) i.below))
      have HLK : Hid (lookB q d = (decide (d ≤ 6) && ((!decide (0 < d) || !be) && (bk && bi)))) := Lib.hid (by rw [lookB, ← hbe, hbk, hbi, Bool.not_not])
      have HIDS := Lib.hid hids
      have HBW := Lib.hid hBW
      have HRES := Lib.hid hres
      have HROW := Lib.hid hrow
      have HV := Lib.hid hv
      obtain ⟨b0, cap0, rfl⟩ := own_form hrow
      have hcap0 := own_cap hrow
      have q3 := BCl.cell hv.cell
      have q4 := BCl.cell k1
      have hNE := BCl.full W
      have hmx : Tryd.prog.follows .mixedOrders = true := by kernel_rfl
      have s5 : (0 : Int) ≤ (((idsX pre).length : Nat) : Int) + (q.ids.length : Int) := by omega
      unfold maxLen at hcm
      have hil := ids_light hwq
      have s6 : IntKind.i64.wrap ((((idsX pre).length : Nat) : Int) + (q.ids.length : Int)) = (((idsX pre).length : Nat) : Int) + (q.ids.length : Int) := by rw [IntKind.wrap_i64]; omega
      clear hbe hbk hbi hq0 hq hTW k1 hrow hres hv hBW hids hwk
      by_cases d6 : d ≤ 6
      · have s1 : decide ((6 : Int) < d) = false := decide_eq_false (by omega)
        by_cases dp : 0 < d
        · have s2 : decide ((0 : Int) < d) = true := decide_eq_true dp
          cases be with
          | true =>
            have HF : Hid (walkB ((pre ++ [(⟨⟨g, off, q, d⟩, hg⟩ : TrX W4 (w.heap.size + 1) A B z)]).map tdX) = false) := Lib.hid (by rw [HWS.out, HLK.out]; rw [decide_eq_true dp]; simp)
            gi_wp2_with fail
            refine wpIn_round_below (fun w' => ∃ i : BCl W, w' = i.w) hmx (by kernel_rfl) (by kernel_rfl) (fun ⟨_, _, h⟩ => h) (BCl.start W) ?_
            repeat (go_big_quiet_step (first
              | (go_at_call 43; rename_i i; with_reducible refine (HE1.out i).mono ?_; intro e w' h; exact ⟨h.1, i.next h.2⟩)
              | (go_at_call 44; rename_i i; with_reducible refine (HK1.out i).mono ?_; intro e w' h; exact ⟨h.1, i.next h.2⟩)
              | (go_at_call 45; rename_i i; with_reducible refine (HI1.out i).mono ?_; intro e w' h; exact ⟨h.1, i.next h.2⟩)))
            refine wpQuiet_nil ?_
            intro _ hw'
            obtain ⟨i, rfl⟩ := hw'
            clear q3 q4
            have hr := boxed_below HRES.out i.below
            have hrc := hr.cell
            have hrf := hr.frozen
            have HRi := Lib.hid hr
            clear hr
            gi_wp2_with fail
            exact ⟨(KeepsFrom.of_grownBy (grown_of_below i.below none) (fun _ h => by cases h)).trans ((KeepsOthers.setCell _ _ _).from _), ⟨rfl, HF.out⟩, HRi.out.set _, (HBW.out.trans (i.below.mono hszW)).setCell (p := ⟨w.heap.size + 1, 0, none⟩) (Nat.le_refl _) _⟩
          | false =>
            cases bk with
            | false =>
              have HF : Hid (walkB ((pre ++ [(⟨⟨g, off, q, d⟩, hg⟩ : TrX W4 (w.heap.size + 1) A B z)]).map tdX) = false) := Lib.hid (by rw [HWS.out, HLK.out]; simp)
              gi_wp2_with fail
              refine wpIn_round_below (fun w' => ∃ i : BCl W, w' = i.w) hmx (by kernel_rfl) (by kernel_rfl) (fun ⟨_, _, h⟩ => h) (BCl.start W) ?_
              repeat (go_big_quiet_step (first
                | (go_at_call 43; rename_i i; with_reducible refine (HE1.out i).mono ?_; intro e w' h; exact ⟨h.1, i.next h.2⟩)
                | (go_at_call 44; rename_i i; with_reducible refine (HK1.out i).mono ?_; intro e w' h; exact ⟨h.1, i.next h.2⟩)
                | (go_at_call 45; rename_i i; with_reducible refine (HI1.out i).mono ?_; intro e w' h; exact ⟨h.1, i.next h.2⟩)))
              refine wpQuiet_nil ?_
              intro _ hw'
              obtain ⟨i, rfl⟩ := hw'
              clear q3 q4
              have hr := boxed_below HRES.out i.below
              have hrc := hr.cell
              have hrf := hr.frozen
              have HRi := Lib.hid hr
              clear hr
              gi_wp2_with fail
              exact ⟨(KeepsFrom.of_grownBy (grown_of_below i.below none) (fun _ h => by cases h)).trans ((KeepsOthers.setCell _ _ _).from _), ⟨rfl, HF.out⟩, HRi.out.set _, (HBW.out.trans (i.below.mono hszW)).setCell (p := ⟨w.heap.size + 1, 0, none⟩) (Nat.le_refl _) _⟩
            | true =>
              by_cases hs : (idsX pre).length + q.ids.length ≤ 16
              · have s7 : decide ((16 : Int) < (((idsX pre).length : Nat) : Int) + (q.ids.length : Int)) = false := decide_eq_false (by omega)
                cases bi with
                | false =>
                  have HF : Hid (walkB ((pre ++ [(⟨⟨g, off, q, d⟩, hg⟩ : TrX W4 (w.heap.size + 1) A B z)]).map tdX) = false) := Lib.hid (by rw [HWS.out, HLK.out]; simp)
                  gi_wp2_with fail
                  refine wpIn_round_below (fun w' => ∃ i : BCl W, w' = i.w) hmx (by kernel_rfl) (by kernel_rfl) (fun ⟨_, _, h⟩ => h) (BCl.start W) ?_
                  repeat (go_big_quiet_step (first
                    | (go_at_call 43; rename_i i; with_reducible refine (HE1.out i).mono ?_; intro e w' h; exact ⟨h.1, i.next h.2⟩)
                    | (go_at_call 44; rename_i i; with_reducible refine (HK1.out i).mono ?_; intro e w' h; exact ⟨h.1, i.next h.2⟩)
                    | (go_at_call 45; rename_i i; with_reducible refine (HI1.out i).mono ?_; intro e w' h; exact ⟨h.1, i.next h.2⟩)))
                  refine wpQuiet_nil ?_
                  intro _ hw'
                  obtain ⟨i, rfl⟩ := hw'
                  clear q3 q4
                  have hr := boxed_below HRES.out i.below
                  have hrc := hr.cell
                  have hrf := hr.frozen
                  have HRi := Lib.hid hr
                  clear hr
                  gi_wp2_with fail
                  exact ⟨(KeepsFrom.of_grownBy (grown_of_below i.below none) (fun _ h => by cases h)).trans ((KeepsOthers.setCell _ _ _).from _), ⟨rfl, HF.out⟩, HRi.out.set _, (HBW.out.trans (i.below.mono hszW)).setCell (p := ⟨w.heap.size + 1, 0, none⟩) (Nat.le_refl _) _⟩
                | true =>
                  gi_wp2_with fail
                  refine wpIn_round_below (fun w' => ∃ i : BCl W, w' = i.w) hmx (by kernel_rfl) (by kernel_rfl) (fun ⟨_, _, h⟩ => h) (BCl.start W) ?_
                  repeat (go_big_quiet_step (first
                    | (go_at_call 43; rename_i i; with_reducible refine (HE1.out i).mono ?_; intro e w' h; exact ⟨h.1, i.next h.2⟩)
                    | (go_at_call 44; rename_i i; with_reducible refine (HK1.out i).mono ?_; intro e w' h; exact ⟨h.1, i.next h.2⟩)
                    | (go_at_call 45; rename_i i; with_reducible refine (HI1.out i).mono ?_; intro e w' h; exact ⟨h.1, i.next h.2⟩)))
                  refine wpQuiet_nil ?_
                  intro _ hw'
                  obtain ⟨i, rfl⟩ := hw'
                  have q3' := fun j : BCl i.w => BCl.cell (q3 i) j
                  have q4' := fun j : BCl i.w => BCl.cell (q4 i) j
                  have hvi := boxed_below HV.out i.below
                  have HVi := Lib.hid hvi
                  have HRi := Lib.hid (boxed_below HRES.out i.below)
                  clear hvi q3 q4
                  gi_wp2_with fail
                  have hNE2 := BCl.full i.w
                  refine wpIn_round_tail 5 (fun w' => ∃ j : BCl i.w, w' = j.w) hmx (by kernel_rfl) (by kernel_rfl) (fun ⟨_, _, h⟩ => h) (BCl.start i.w) ?_
                  simp only [List.take_succ_cons, List.take_zero, List.drop_succ_cons, List.drop_zero]
                  repeat (go_big_quiet_step (fail))
                  refine wpQuiet_nil ?_
                  intro _ hw'
                  obtain ⟨j, rfl⟩ := hw'
                  have hvj := boxed_below HVi.out j.below
                  have HVj := Lib.hid hvj
                  have HRj := Lib.hid (boxed_below HRi.out j.below)
                  have hij : Below W.heap.size W j.w := i.below.trans (j.below.mono i.below.size)
                  have HRWj := Lib.hid (own_belowZ HROW.out hij)
                  have HIJ := Lib.hid hij
                  have hszj : w.heap.size + 1 ≤ j.w.heap.size := Nat.le_trans hszW hij.size
                  have hsrc : (q.ids.length = 0 ∧ rowZ q.ids = []) ∨ ((rowZ q.ids).length = q.ids.length * 1 ∧ ∃ ad, a1 = some ad ∧ ∀ k u, (rowZ q.ids)[k]? = some u → j.w.cell? (ad.add k) = some u) := by
                    by_cases h0 : 0 < q.ids.length
                    · obtain ⟨g1, o1, rfl, _, hg1, hc1⟩ := HIDS.out h0
                      exact Or.inr ⟨by rw [rowZ_length, Nat.mul_one], _, rfl, src_rowZ fun k hk => (hij.cell (p := ⟨g1, o1 + k, none⟩) (by show g1 < _; omega)).trans (hc1 k hk).1⟩
                    · exact Or.inl ⟨by omega, by rw [List.eq_nil_of_length_eq_zero (by omega : q.ids.length = 0)]; rfl⟩
                  have HSRC := Lib.hid hsrc
                  clear hvj hij hsrc q3' q4'
                  have hone : (walkB ((pre ++ [(⟨⟨g, off, q, d⟩, hg⟩ : TrX W4 (w.heap.size + 1) A B z)]).map tdX) = true) := by rw [HWS.out, HLK.out, decide_eq_true hs, decide_eq_true d6]; simp
                  have HONE := Lib.hid hone
                  clear hone
                  go_wp2_with (at_builtin; refine wpList_append_gen rfl (.tmp 46) (.tmp 50) 22 rfl (w.heap.size + 1) 3 i0 _ 1 8 Tryd.underlying22 hi0 hz0 hz1 hz2 rfl (by decide) (.slice b0 (idsX pre).length cap0) (idsX pre).length ((idsX pre).map (Value.int .i64)) rfl HRWj.out a1 q.ids.length c1' (rowZ q.ids) rfl HSRC.out (one_rowZ _) (by unfold maxLen; omega) (by omega) hszj ?_; intro b' cp' w1 hown hgrow; obtain ⟨m1, m2, m3, m4, m5⟩ := boxed_appended HVj.out (by decide) HRWj.out hszj (by omega) hown hgrow; have m6 := Lib.hid (other_box (B := w.heap.size + 1 + 1) (v' := .slice b' ((idsX pre).length + q.ids.length) cp') HRj.out (by decide) HRWj.out hgrow (by omega)); have M2 := Lib.hid m2; have M3 := Lib.hid m3; have M4 := Lib.hid m4; have M5 := Lib.hid m5; have kc := m1.cell; have kf := m1.frozen; have KB := Lib.hid (fun b u (hb : Boxed W b 84 u) => other_box (B := w.heap.size + 1 + 1) (v' := .slice b' ((idsX pre).length + q.ids.length) cp') (boxed_below hb HIJ.out) (by decide) HRWj.out hgrow (fun e => two_types (e ▸ hb) HV.out (by decide))); clear m1 m2 m3 m4 m5 hown hgrow)
                  exact ⟨((KeepsFrom.of_grownBy (grown_of_below HIJ.out none) (fun _ h => by cases h)).trans (M4.out.from _)), ⟨(HIJ.out.mono hszW).trans M5.out, KB.out⟩, HONE.out, ⟨_, M2.out, by rw [idsX_snoc, List.length_append, List.map_append]; exact M3.out, trivial⟩, m6.out, HBW.out.trans ((HIJ.out.mono hszW).trans M5.out)⟩
              · have s7 : decide ((16 : Int) < (((idsX pre).length : Nat) : Int) + (q.ids.length : Int)) = true := decide_eq_true (by omega)
                have HF : Hid (walkB ((pre ++ [(⟨⟨g, off, q, d⟩, hg⟩ : TrX W4 (w.heap.size + 1) A B z)]).map tdX) = false) := Lib.hid (by rw [HWS.out, HLK.out]; rw [decide_eq_false hs, Bool.and_false])
                gi_wp2_with fail
                refine wpIn_round_below (fun w' => ∃ i : BCl W, w' = i.w) hmx (by kernel_rfl) (by kernel_rfl) (fun ⟨_, _, h⟩ => h) (BCl.start W) ?_
                repeat (go_big_quiet_step (first
                  | (go_at_call 43; rename_i i; with_reducible refine (HE1.out i).mono ?_; intro e w' h; exact ⟨h.1, i.next h.2⟩)
                  | (go_at_call 44; rename_i i; with_reducible refine (HK1.out i).mono ?_; intro e w' h; exact ⟨h.1, i.next h.2⟩)
                  | (go_at_call 45; rename_i i; with_reducible refine (HI1.out i).mono ?_; intro e w' h; exact ⟨h.1, i.next h.2⟩)))
                refine wpQuiet_nil ?_
                intro _ hw'
                obtain ⟨i, rfl⟩ := hw'
                clear q3 q4
                have hr := boxed_below HRES.out i.below
                have hrc := hr.cell
                have hrf := hr.frozen
                have HRi := Lib.hid hr
                clear hr
                gi_wp2_with fail
                exact ⟨(KeepsFrom.of_grownBy (grown_of_below i.below none) (fun _ h => by cases h)).trans ((KeepsOthers.setCell _ _ _).from _), ⟨rfl, HF.out⟩, HRi.out.set _, (HBW.out.trans (i.below.mono hszW)).setCell (p := ⟨w.heap.size + 1, 0, none⟩) (Nat.le_refl _) _⟩
        · have s2 : decide ((0 : Int) < d) = false := decide_eq_false dp
          cases be with
          | true =>
            cases bk with
            | false =>
              have HF : Hid (walkB ((pre ++ [(⟨⟨g, off, q, d⟩, hg⟩ : TrX W4 (w.heap.size + 1) A B z)]).map tdX) = false) := Lib.hid (by rw [HWS.out, HLK.out]; simp)
              gi_wp2_with fail
              refine wpIn_round_below (fun w' => ∃ i : BCl W, w' = i.w) hmx (by kernel_rfl) (by kernel_rfl) (fun ⟨_, _, h⟩ => h) (BCl.start W) ?_
              repeat (go_big_quiet_step (first
                | (go_at_call 43; rename_i i; with_reducible refine (HE1.out i).mono ?_; intro e w' h; exact ⟨h.1, i.next h.2⟩)
                | (go_at_call 44; rename_i i; with_reducible refine (HK1.out i).mono ?_; intro e w' h; exact ⟨h.1, i.next h.2⟩)
                | (go_at_call 45; rename_i i; with_reducible refine (HI1.out i).mono ?_; intro e w' h; exact ⟨h.1, i.next h.2⟩)))
              refine wpQuiet_nil ?_
              intro _ hw'
              obtain ⟨i, rfl⟩ := hw'
              clear q3 q4
              have hr := boxed_below HRES.out i.below
              have hrc := hr.cell
              have hrf := hr.frozen
              have HRi := Lib.hid hr
              clear hr
              gi_wp2_with fail
              exact ⟨(KeepsFrom.of_grownBy (grown_of_below i.below none) (fun _ h => by cases h)).trans ((KeepsOthers.setCell _ _ _).from _), ⟨rfl, HF.out⟩, HRi.out.set _, (HBW.out.trans (i.below.mono hszW)).setCell (p := ⟨w.heap.size + 1, 0, none⟩) (Nat.le_refl _) _⟩
            | true =>
              by_cases hs : (idsX pre).length + q.ids.length ≤ 16
              · have s7 : decide ((16 : Int) < (((idsX pre).length : Nat) : Int) + (q.ids.length : Int)) = false := decide_eq_false (by omega)
                cases bi with
                | false =>
                  have HF : Hid (walkB ((pre ++ [(⟨⟨g, off, q, d⟩, hg⟩ : TrX W4 (w.heap.size + 1) A B z)]).map tdX) = false) := Lib.hid (by rw [HWS.out, HLK.out]; simp)
                  gi_wp2_with fail
                  refine wpIn_round_below (fun w' => ∃ i : BCl W, w' = i.w) hmx (by kernel_rfl) (by kernel_rfl) (fun ⟨_, _, h⟩ => h) (BCl.start W) ?_
                  repeat (go_big_quiet_step (first
                    | (go_at_call 43; rename_i i; with_reducible refine (HE1.out i).mono ?_; intro e w' h; exact ⟨h.1, i.next h.2⟩)
                    | (go_at_call 44; rename_i i; with_reducible refine (HK1.out i).mono ?_; intro e w' h; exact ⟨h.1, i.next h.2⟩)
                    | (go_at_call 45; rename_i i; with_reducible refine (HI1.out i).mono ?_; intro e w' h; exact ⟨h.1, i.next h.2⟩)))
                  refine wpQuiet_nil ?_
                  intro _ hw'
                  obtain ⟨i, rfl⟩ := hw'
                  clear q3 q4
                  have hr := boxed_below HRES.out i.below
                  have hrc := hr.cell
                  have hrf := hr.frozen
                  have HRi := Lib.hid hr
                  clear hr
                  gi_wp2_with fail
                  exact ⟨(KeepsFrom.of_grownBy (grown_of_below i.below none) (fun _ h => by cases h)).trans ((KeepsOthers.setCell _ _ _).from _), ⟨rfl, HF.out⟩, HRi.out.set _, (HBW.out.trans (i.below.mono hszW)).setCell (p := ⟨w.heap.size + 1, 0, none⟩) (Nat.le_refl _) _⟩
                | true =>
                  gi_wp2_with fail
                  refine wpIn_round_below (fun w' => ∃ i : BCl W, w' = i.w) hmx (by kernel_rfl) (by kernel_rfl) (fun ⟨_, _, h⟩ => h) (BCl.start W) ?_
                  repeat (go_big_quiet_step (first
                    | (go_at_call 43; rename_i i; with_reducible refine (HE1.out i).mono ?_; intro e w' h; exact ⟨h.1, i.next h.2⟩)
                    | (go_at_call 44; rename_i i; with_reducible refine (HK1.out i).mono ?_; intro e w' h; exact ⟨h.1, i.next h.2⟩)
                    | (go_at_call 45; rename_i i; with_reducible refine (HI1.out i).mono ?_; intro e w' h; exact ⟨h.1, i.next h.2⟩)))
                  refine wpQuiet_nil ?_
                  intro _ hw'
                  obtain ⟨i, rfl⟩ := hw'
                  have q3' := fun j : BCl i.w => BCl.cell (q3 i) j
                  have q4' := fun j : BCl i.w => BCl.cell (q4 i) j
                  have hvi := boxed_below HV.out i.below
                  have HVi := Lib.hid hvi
                  have HRi := Lib.hid (boxed_below HRES.out i.below)
                  clear hvi q3 q4
                  gi_wp2_with fail
                  have hNE2 := BCl.full i.w
                  refine wpIn_round_tail 5 (fun w' => ∃ j : BCl i.w, w' = j.w) hmx (by kernel_rfl) (by kernel_rfl) (fun ⟨_, _, h⟩ => h) (BCl.start i.w) ?_
                  simp only [List.take_succ_cons, List.take_zero, List.drop_succ_cons, List.drop_zero]
                  repeat (go_big_quiet_step (fail))
                  refine wpQuiet_nil ?_
                  intro _ hw'
                  obtain ⟨j, rfl⟩ := hw'
                  have hvj := boxed_below HVi.out j.below
                  have HVj := Lib.hid hvj
                  have HRj := Lib.hid (boxed_below HRi.out j.below)
                  have hij : Below W.heap.size W j.w := i.below.trans (j.below.mono i.below.size)
                  have HRWj := Lib.hid (own_belowZ HROW.out hij)
                  have HIJ := Lib.hid hij
                  have hszj : w.heap.size + 1 ≤ j.w.heap.size := Nat.le_trans hszW hij.size
                  have hsrc : (q.ids.length = 0 ∧ rowZ q.ids = []) ∨ ((rowZ q.ids).length = q.ids.length * 1 ∧ ∃ ad, a1 = some ad ∧ ∀ k u, (rowZ q.ids)[k]? = some u → j.w.cell? (ad.add k) = some u) := by
                    by_cases h0 : 0 < q.ids.length
                    · obtain ⟨g1, o1, rfl, _, hg1, hc1⟩ := HIDS.out h0
                      exact Or.inr ⟨by rw [rowZ_length, Nat.mul_one], _, rfl, src_rowZ fun k hk => (hij.cell (p := ⟨g1, o1 + k, none⟩) (by show g1 < _; omega)).trans (hc1 k hk).1⟩
                    · exact Or.inl ⟨by omega, by rw [List.eq_nil_of_length_eq_zero (by omega : q.ids.length = 0)]; rfl⟩
                  have HSRC := Lib.hid hsrc
                  clear hvj hij hsrc q3' q4'
                  have hone : (walkB ((pre ++ [(⟨⟨g, off, q, d⟩, hg⟩ : TrX W4 (w.heap.size + 1) A B z)]).map tdX) = true) := by rw [HWS.out, HLK.out, decide_eq_true hs, decide_eq_true d6]; rw [decide_eq_false (by omega : ¬ 0 < d)]; rfl
                  have HONE := Lib.hid hone
                  clear hone
                  go_wp2_with (at_builtin; refine wpList_append_gen rfl (.tmp 46) (.tmp 50) 22 rfl (w.heap.size + 1) 3 i0 _ 1 8 Tryd.underlying22 hi0 hz0 hz1 hz2 rfl (by decide) (.slice b0 (idsX pre).length cap0) (idsX pre).length ((idsX pre).map (Value.int .i64)) rfl HRWj.out a1 q.ids.length c1' (rowZ q.ids) rfl HSRC.out (one_rowZ _) (by unfold maxLen; omega) (by omega) hszj ?_; intro b' cp' w1 hown hgrow; obtain ⟨m1, m2, m3, m4, m5⟩ := boxed_appended HVj.out (by decide) HRWj.out hszj (by omega) hown hgrow; have m6 := Lib.hid (other_box (B := w.heap.size + 1 + 1) (v' := .slice b' ((idsX pre).length + q.ids.length) cp') HRj.out (by decide) HRWj.out hgrow (by omega)); have M2 := Lib.hid m2; have M3 := Lib.hid m3; have M4 := Lib.hid m4; have M5 := Lib.hid m5; have kc := m1.cell; have kf := m1.frozen; have KB := Lib.hid (fun b u (hb : Boxed W b 84 u) => other_box (B := w.heap.size + 1 + 1) (v' := .slice b' ((idsX pre).length + q.ids.length) cp') (boxed_below hb HIJ.out) (by decide) HRWj.out hgrow (fun e => two_types (e ▸ hb) HV.out (by decide))); clear m1 m2 m3 m4 m5 hown hgrow)
                  exact ⟨((KeepsFrom.of_grownBy (grown_of_below HIJ.out none) (fun _ h => by cases h)).trans (M4.out.from _)), ⟨(HIJ.out.mono hszW).trans M5.out, KB.out⟩, HONE.out, ⟨_, M2.out, by rw [idsX_snoc, List.length_append, List.map_append]; exact M3.out, trivial⟩, m6.out, HBW.out.trans ((HIJ.out.mono hszW).trans M5.out)⟩
              · have s7 : decide ((16 : Int) < (((idsX pre).length : Nat) : Int) + (q.ids.length : Int)) = true := decide_eq_true (by omega)
                have HF : Hid (walkB ((pre ++ [(⟨⟨g, off, q, d⟩, hg⟩ : TrX W4 (w.heap.size + 1) A B z)]).map tdX) = false) := Lib.hid (by rw [HWS.out, HLK.out]; rw [decide_eq_false hs, Bool.and_false])
                gi_wp2_with fail
                refine wpIn_round_below (fun w' => ∃ i : BCl W, w' = i.w) hmx (by kernel_rfl) (by kernel_rfl) (fun ⟨_, _, h⟩ => h) (BCl.start W) ?_
                repeat (go_big_quiet_step (first
                  | (go_at_call 43; rename_i i; with_reducible refine (HE1.out i).mono ?_; intro e w' h; exact ⟨h.1, i.next h.2⟩)
                  | (go_at_call 44; rename_i i; with_reducible refine (HK1.out i).mono ?_; intro e w' h; exact ⟨h.1, i.next h.2⟩)
                  | (go_at_call 45; rename_i i; with_reducible refine (HI1.out i).mono ?_; intro e w' h; exact ⟨h.1, i.next h.2⟩)))
                refine wpQuiet_nil ?_
                intro _ hw'
                obtain ⟨i, rfl⟩ := hw'
                clear q3 q4
                have hr := boxed_below HRES.out i.below
                have hrc := hr.cell
                have hrf := hr.frozen
                have HRi := Lib.hid hr
                clear hr
                gi_wp2_with fail
                exact ⟨(KeepsFrom.of_grownBy (grown_of_below i.below none) (fun _ h => by cases h)).trans ((KeepsOthers.setCell _ _ _).from _), ⟨rfl, HF.out⟩, HRi.out.set _, (HBW.out.trans (i.below.mono hszW)).setCell (p := ⟨w.heap.size + 1, 0, none⟩) (Nat.le_refl _) _⟩
          | false =>
            cases bk with
            | false =>
              have HF : Hid (walkB ((pre ++ [(⟨⟨g, off, q, d⟩, hg⟩ : TrX W4 (w.heap.size + 1) A B z)]).map tdX) = false) := Lib.hid (by rw [HWS.out, HLK.out]; simp)
              gi_wp2_with fail
              refine wpIn_round_below (fun w' => ∃ i : BCl W, w' = i.w) hmx (by kernel_rfl) (by kernel_rfl) (fun ⟨_, _, h⟩ => h) (BCl.start W) ?_
              repeat (go_big_quiet_step (first
                | (go_at_call 43; rename_i i; with_reducible refine (HE1.out i).mono ?_; intro e w' h; exact ⟨h.1, i.next h.2⟩)
                | (go_at_call 44; rename_i i; with_reducible refine (HK1.out i).mono ?_; intro e w' h; exact ⟨h.1, i.next h.2⟩)
                | (go_at_call 45; rename_i i; with_reducible refine (HI1.out i).mono ?_; intro e w' h; exact ⟨h.1, i.next h.2⟩)))
              refine wpQuiet_nil ?_
              intro _ hw'
              obtain ⟨i, rfl⟩ := hw'
              clear q3 q4
              have hr := boxed_below HRES.out i.below
              have hrc := hr.cell
              have hrf := hr.frozen
              have HRi := Lib.hid hr
              clear hr
              gi_wp2_with fail
              exact ⟨(KeepsFrom.of_grownBy (grown_of_below i.below none) (fun _ h => by cases h)).trans ((KeepsOthers.setCell _ _ _).from _), ⟨rfl, HF.out⟩, HRi.out.set _, (HBW.out.trans (i.below.mono hszW)).setCell (p := ⟨w.heap.size + 1, 0, none⟩) (Nat.le_refl _) _⟩
            | true =>
              by_cases hs : (idsX pre).length + q.ids.length ≤ 16
              · have s7 : decide ((16 : Int) < (((idsX pre).length : Nat) : Int) + (q.ids.length : Int)) = false := decide_eq_false (by omega)
                cases bi with
                | false =>
                  have HF : Hid (walkB ((pre ++ [(⟨⟨g, off, q, d⟩, hg⟩ : TrX W4 (w.heap.size + 1) A B z)]).map tdX) = false) := Lib.hid (by rw [HWS.out, HLK.out]; simp)
                  gi_wp2_with fail
                  refine wpIn_round_below (fun w' => ∃ i : BCl W, w' = i.w) hmx (by kernel_rfl) (by kernel_rfl) (fun ⟨_, _, h⟩ => h) (BCl.start W) ?_
                  repeat (go_big_quiet_step (first
                    | (go_at_call 43; rename_i i; with_reducible refine (HE1.out i).mono ?_; intro e w' h; exact ⟨h.1, i.next h.2⟩)
                    | (go_at_call 44; rename_i i; with_reducible refine (HK1.out i).mono ?_; intro e w' h; exact ⟨h.1, i.next h.2⟩)
                    | (go_at_call 45; rename_i i; with_reducible refine (HI1.out i).mono ?_; intro e w' h; exact ⟨h.1, i.next h.2⟩)))
                  refine wpQuiet_nil ?_
                  intro _ hw'
                  obtain ⟨i, rfl⟩ := hw'
                  clear q3 q4
                  have hr := boxed_below HRES.out i.below
                  have hrc := hr.cell
                  have hrf := hr.frozen
                  have HRi := Lib.hid hr
                  clear hr
                  gi_wp2_with fail
                  exact ⟨(KeepsFrom.of_grownBy (grown_of_below i.below none) (fun _ h => by cases h)).trans ((KeepsOthers.setCell _ _ _).from _), ⟨rfl, HF.out⟩, HRi.out.set _, (HBW.out.trans (i.below.mono hszW)).setCell (p := ⟨w.heap.size + 1, 0, none⟩) (Nat.le_refl _) _⟩
                | true =>
                  gi_wp2_with fail
                  refine wpIn_round_below (fun w' => ∃ i : BCl W, w' = i.w) hmx (by kernel_rfl) (by kernel_rfl) (fun ⟨_, _, h⟩ => h) (BCl.start W) ?_
                  repeat (go_big_quiet_step (first
                    | (go_at_call 43; rename_i i; with_reducible refine (HE1.out i).mono ?_; intro e w' h; exact ⟨h.1, i.next h.2⟩)
                    | (go_at_call 44; rename_i i; with_reducible refine (HK1.out i).mono ?_; intro e w' h; exact ⟨h.1, i.next h.2⟩)
                    | (go_at_call 45; rename_i i; with_reducible refine (HI1.out i).mono ?_; intro e w' h; exact ⟨h.1, i.next h.2⟩)))
                  refine wpQuiet_nil ?_
                  intro _ hw'
                  obtain ⟨i, rfl⟩ := hw'
                  have q3' := fun j : BCl i.w => BCl.cell (q3 i) j
                  have q4' := fun j : BCl i.w => BCl.cell (q4 i) j
                  have hvi := boxed_below HV.out i.below
                  have HVi := Lib.hid hvi
                  have HRi := Lib.hid (boxed_below HRES.out i.below)
                  clear hvi q3 q4
                  gi_wp2_with fail
                  have hNE2 := BCl.full i.w
                  refine wpIn_round_tail 5 (fun w' => ∃ j : BCl i.w, w' = j.w) hmx (by kernel_rfl) (by kernel_rfl) (fun ⟨_, _, h⟩ => h) (BCl.start i.w) ?_
                  simp only [List.take_succ_cons, List.take_zero, List.drop_succ_cons, List.drop_zero]
                  repeat (go_big_quiet_step (fail))
                  refine wpQuiet_nil ?_
                  intro _ hw'
                  obtain ⟨j, rfl⟩ := hw'
                  have hvj := boxed_below HVi.out j.below
                  have HVj := Lib.hid hvj
                  have HRj := Lib.hid (boxed_below HRi.out j.below)
                  have hij : Below W.heap.size W j.w := i.below.trans (j.below.mono i.below.size)
                  have HRWj := Lib.hid (own_belowZ HROW.out hij)
                  have HIJ := Lib.hid hij
                  have hszj : w.heap.size + 1 ≤ j.w.heap.size := Nat.le_trans hszW hij.size
                  have hsrc : (q.ids.length = 0 ∧ rowZ q.ids = []) ∨ ((rowZ q.ids).length = q.ids.length * 1 ∧ ∃ ad, a1 = some ad ∧ ∀ k u, (rowZ q.ids)[k]? = some u → j.w.cell? (ad.add k) = some u) := by
                    by_cases h0 : 0 < q.ids.length
                    · obtain ⟨g1, o1, rfl, _, hg1, hc1⟩ := HIDS.out h0
                      exact Or.inr ⟨by rw [rowZ_length, Nat.mul_one], _, rfl, src_rowZ fun k hk => (hij.cell (p := ⟨g1, o1 + k, none⟩) (by show g1 < _; omega)).trans (hc1 k hk).1⟩
                    · exact Or.inl ⟨by omega, by rw [List.eq_nil_of_length_eq_zero (by omega : q.ids.length = 0)]; rfl⟩
                  have HSRC := Lib.hid hsrc
                  clear hvj hij hsrc q3' q4'
                  have hone : (walkB ((pre ++ [(⟨⟨g, off, q, d⟩, hg⟩ : TrX W4 (w.heap.size + 1) A B z)]).map tdX) = true) := by rw [HWS.out, HLK.out, decide_eq_true hs, decide_eq_true d6]; rw [decide_eq_false (by omega : ¬ 0 < d)]; rfl
                  have HONE := Lib.hid hone
                  clear hone
                  go_wp2_with (at_builtin; refine wpList_append_gen rfl (.tmp 46) (.tmp 50) 22 rfl (w.heap.size + 1) 3 i0 _ 1 8 Tryd.underlying22 hi0 hz0 hz1 hz2 rfl (by decide) (.slice b0 (idsX pre).length cap0) (idsX pre).length ((idsX pre).map (Value.int .i64)) rfl HRWj.out a1 q.ids.length c1' (rowZ q.ids) rfl HSRC.out (one_rowZ _) (by unfold maxLen; omega) (by omega) hszj ?_; intro b' cp' w1 hown hgrow; obtain ⟨m1, m2, m3, m4, m5⟩ := boxed_appended HVj.out (by decide) HRWj.out hszj (by omega) hown hgrow; have m6 := Lib.hid (other_box (B := w.heap.size + 1 + 1) (v' := .slice b' ((idsX pre).length + q.ids.length) cp') HRj.out (by decide) HRWj.out hgrow (by omega)); have M2 := Lib.hid m2; have M3 := Lib.hid m3; have M4 := Lib.hid m4; have M5 := Lib.hid m5; have kc := m1.cell; have kf := m1.frozen; have KB := Lib.hid (fun b u (hb : Boxed W b 84 u) => other_box (B := w.heap.size + 1 + 1) (v' := .slice b' ((idsX pre).length + q.ids.length) cp') (boxed_below hb HIJ.out) (by decide) HRWj.out hgrow (fun e => two_types (e ▸ hb) HV.out (by decide))); clear m1 m2 m3 m4 m5 hown hgrow)
                  exact ⟨((KeepsFrom.of_grownBy (grown_of_below HIJ.out none) (fun _ h => by cases h)).trans (M4.out.from _)), ⟨(HIJ.out.mono hszW).trans M5.out, KB.out⟩, HONE.out, ⟨_, M2.out, by rw [idsX_snoc, List.length_append, List.map_append]; exact M3.out, trivial⟩, m6.out, HBW.out.trans ((HIJ.out.mono hszW).trans M5.out)⟩
              · have s7 : decide ((16 : Int) < (((idsX pre).length : Nat) : Int) + (q.ids.length : Int)) = true := decide_eq_true (by omega)
                have HF : Hid (walkB ((pre ++ [(⟨⟨g, off, q, d⟩, hg⟩ : TrX W4 (w.heap.size + 1) A B z)]).map tdX) = false) := Lib.hid (by rw [HWS.out, HLK.out]; rw [decide_eq_false hs, Bool.and_false])
                gi_wp2_with fail
                refine wpIn_round_below (fun w' => ∃ i : BCl W, w' = i.w) hmx (by kernel_rfl) (by kernel_rfl) (fun ⟨_, _, h⟩ => h) (BCl.start W) ?_
                repeat (go_big_quiet_step (first
                  | (go_at_call 43; rename_i i; with_reducible refine (HE1.out i).mono ?_; intro e w' h; exact ⟨h.1, i.next h.2⟩)
                  | (go_at_call 44; rename_i i; with_reducible refine (HK1.out i).mono ?_; intro e w' h; exact ⟨h.1, i.next h.2⟩)
                  | (go_at_call 45; rename_i i; with_reducible refine (HI1.out i).mono ?_; intro e w' h; exact ⟨h.1, i.next h.2⟩)))
                refine wpQuiet_nil ?_
                intro _ hw'
                obtain ⟨i, rfl⟩ := hw'
                clear q3 q4
                have hr := boxed_below HRES.out i.below
                have hrc := hr.cell
                have hrf := hr.frozen
                have HRi := Lib.hid hr
                clear hr
                gi_wp2_with fail
                exact ⟨(KeepsFrom.of_grownBy (grown_of_below i.below none) (fun _ h => by cases h)).trans ((KeepsOthers.setCell _ _ _).from _), ⟨rfl, HF.out⟩, HRi.out.set _, (HBW.out.trans (i.below.mono hszW)).setCell (p := ⟨w.heap.size + 1, 0, none⟩) (Nat.le_refl _) _⟩
      · have s1 : decide ((6 : Int) < d) = true := decide_eq_true (by omega)
        have HF : Hid (walkB ((pre ++ [(⟨⟨g, off, q, d⟩, hg⟩ : TrX W4 (w.heap.size + 1) A B z)]).map tdX) = false) := Lib.hid (by rw [HWS.out, HLK.out]; rw [decide_eq_false d6]; rfl)
        gi_wp2_with fail
        refine wpIn_round_below (fun w' => ∃ i : BCl W, w' = i.w) hmx (by kernel_rfl) (by kernel_rfl) (fun ⟨_, _, h⟩ => h) (BCl.start W) ?_
        repeat (go_big_quiet_step (first
          | (go_at_call 43; rename_i i; with_reducible refine (HE1.out i).mono ?_; intro e w' h; exact ⟨h.1, i.next h.2⟩)
          | (go_at_call 44; rename_i i; with_reducible refine (HK1.out i).mono ?_; intro e w' h; exact ⟨h.1, i.next h.2⟩)
          | (go_at_call 45; rename_i i; with_reducible refine (HI1.out i).mono ?_; intro e w' h; exact ⟨h.1, i.next h.2⟩)))
        refine wpQuiet_nil ?_
        intro _ hw'
        obtain ⟨i, rfl⟩ := hw'
        clear q3 q4
        have hr := boxed_below HRES.out i.below
        have hrc := hr.cell
        have hrf := hr.frozen
        have HRi := Lib.hid hr
        clear hr
        gi_wp2_with fail
        exact ⟨(KeepsFrom.of_grownBy (grown_of_below i.below none) (fun _ h => by cases h)).trans ((KeepsOthers.setCell _ _ _).from _), ⟨rfl, HF.out⟩, HRi.out.set _, (HBW.out.trans (i.below.mono hszW)).setCell (p := ⟨w.heap.size + 1, 0, none⟩) (Nat.le_refl _) _⟩
    case done =>
      rintro D ys W hD hys ⟨hwk, ⟨v, hv, hrow, _⟩, hres, hBW⟩ hK
      have hids : idsX ys = allT n t := by rw [idsX, hys, pre_ids]
      rw [hids] at hrow
      rw [hys] at hwk
      have h16 : (allT n t).length ≤ 16 := by
        have h := hwk
        unfold walkB at h
        simp only [Bool.and_eq_true, decide_eq_true_eq] at h
        rw [pre_ids] at h
        exact h.2
      have HEV : Hid (trieB n t = numsB (allT n t)) := Lib.hid (by
        rw [HE.out, hl, hwk, Bool.true_and, Bool.true_and, numsB_in, nodup_rise])
      have hnum := own_nums hrow
      have HNUM := Lib.hid hnum
      have hvc := hv.cell
      obtain ⟨b0, cap0, rfl⟩ := own_form hrow
      have HBW := Lib.hid hBW
      have HRES := Lib.hid hres
      have hresf := hres.frozen
      have hK0 := Lib.hid hK
      clear hwk hys hids hrow hnum hv hres hBW hK
      gi_wp2_with (refine ⟨trivial, ?_⟩; gi_at_call 46; refine (callsIn_wide.2 (idsOK_any _ (allT n t) _ (by omega) HNUM.out)).mono ?_; rintro e w5 ⟨rfl, hb5⟩; have hr5 := boxed_below HRES.out hb5; have hrc := hr5.cell; have hrf := hr5.frozen; have HR5 := Lib.hid hr5; have HB5 := Lib.hid hb5; clear hr5 hb5)
      have hK5 := (KeepsOthers.of_grownBy (grown_of_below HB5.out none) (fun _ _ h => by cases h)).same D _ hK0.out rfl
      have hK' := (KeepsOthers.setCell w5 ⟨w.heap.size + 1, 0, none⟩ (.bool (numsB (allT n t)))).same D _ hK5 rfl
      refine ⟨by simp, .inl ⟨_, _, rfl, run_takeDeferred hK', ?_⟩⟩
      have q4 := Go.cell_kept (HR5.out.set (.bool (numsB (allT n t)))).cell (grownBy_putObj' _ D (.deferred none)) (fun r e => by cases e; exact ⟨_, hK', rfl⟩)
      refine ⟨.bool (numsB (allT n t)), ?_, by rw [HEV.out], (((hB3.trans ((HBW.out.mono (by omega)).trans (HB5.out.mono (Nat.le_trans hB3.size (Nat.le_trans (by omega) HBW.out.size)))))).setCell (p := ⟨w.heap.size + 1, 0, none⟩) (by show w.heap.size ≤ w.heap.size + 1; omega) _).trans (belowK_b (w := W4) hB3.size _ D _ _ (by omega) hK' rfl rfl)⟩
      simp [results, Tryd.results12, go_sem, q4]
    case stop =>
      rintro D c pre W hD hpre ⟨⟨rfl, hwk⟩, hres, hBW⟩ hK
      have HF : Hid (trieB n t = false) := Lib.hid (by
        rw [HE.out, walk_pre hpre hwk, Bool.false_and, Bool.and_false])
      have q4 := Go.cell_kept hres.cell (grownBy_putObj' _ D (.deferred none)) (fun r e => by cases e; exact ⟨_, hK, rfl⟩)
      have HBW := Lib.hid hBW
      clear hwk hres hBW
      gi_wp2
      refine ⟨by simp, .inl ⟨_, _, rfl, run_takeDeferred hK, ?_⟩⟩
      refine ⟨.bool false, ?_, by rw [HF.out], (hB3.trans (HBW.out.mono (by omega))).trans (belowK_b (w := W4) hB3.size W D _ _ (by omega) hK rfl rfl)⟩
      simp [results, Tryd.results12, go_sem, q4]
    -- END
  | false =>
    have HF : Hid (trieB n t = false) := Lib.hid (by
      rw [HE.out, hl]
      rfl)
    go_enter Tryd.func12, Tryd.ntmps12
    go_wp2_with fail
    have X1 := Boxed.new (w.alloc (.cells #[.string t.l, .slice ai li ci, .slice ak lk ck] 30)) 4 (.bool false)
    rw [World.size_alloc] at X1
    have q := X1.cell
    refine bodyPost_ret (v := .bool false) (by simp [results, Tryd.results12, go_sem, q]) rfl ?_
    exact ⟨by rw [HF.out], hB0.alloc (by simp) _⟩
end Go.Proofs.YtcaabnnkjnleeaaDoor
