/- Two tries, alike or not: the model's look and the program's. No condition of its own. -/
import Derived.Test.YtcaabnnkjnleeaaDoorTrLaw
import Derived.Test.YtcaabnnkjnleeaaDoorBelowCls
namespace Go.Proofs.YtcaabnnkjnleeaaDoor
open Go.ChangeShapes Go.WideShapes Go.ChangeAt Go.WideMaps Go.WideElems Go.RowKit

/-- Alike, n deep. -/
def sameT : Nat → Tr → Tr → Bool
  | 0, _, _ => false
  | n + 1, a, b => (a.l.toList == b.l.toList) && (decide (a.ids = b.ids) && (decide (a.ks.length = b.ks.length) && (List.range a.ks.length).all fun j => sameT n (a.ks.getD j default) (b.ks.getD j default)))
theorem same_at {n : Nat} {a b : Tr} (h1 : (a.l.toList == b.l.toList) = true) (h2 : a.ids = b.ids) (h3 : a.ks.length = b.ks.length) : sameT (n + 1) a b = (List.range a.ks.length).all fun j => sameT n (a.ks.getD j default) (b.ks.getD j default) := by
  rw [sameT, h1, decide_eq_true h2, decide_eq_true h3]
  rfl
theorem same_yes {n : Nat} {a b : Tr} {m : Nat} (hm : a.ks.length ≤ m) (h : ∀ j, j < a.ks.length → j < m → sameT n (a.ks.getD j default) (b.ks.getD j default) = true) : ((List.range a.ks.length).all fun j => sameT n (a.ks.getD j default) (b.ks.getD j default)) = true := by
  rw [List.all_eq_true]
  intro j hj
  have := List.mem_range.1 hj
  exact h j this (by omega)
theorem same_no {n : Nat} {a b : Tr} {j : Nat} (hj : j < a.ks.length) (h : sameT n (a.ks.getD j default) (b.ks.getD j default) = false) : ((List.range a.ks.length).all fun j => sameT n (a.ks.getD j default) (b.ks.getD j default)) = false := by
  rw [List.all_eq_false]
  exact ⟨j, List.mem_range.2 hj, by rw [h]; exact Bool.false_ne_true⟩
theorem wt_parts {n : Nat} {t : Tr} (h : wtT (n + 1) t ≤ 1048576) : t.ids.length ≤ 1048576 ∧ t.ks.length + (t.ks.map (wtT n)).sum ≤ 1048576 := by
  have h2 : wtT (n + 1) t = t.l.size + t.ids.length + (t.ks.length + (t.ks.map (wtT n)).sum) := rfl
  omega
def EqRel (w : World) (xs ys : List Int) (i : Value) (wr : World) : Prop := ∃ k : Nat, k ≤ xs.length ∧ i = .int .i64 k ∧ (∀ j (h : j < xs.length) (h2 : j < ys.length), j < k → xs[j] = ys[j]) ∧ Below w.heap.size w wr
theorem eq_all {xs ys : List Int} {k : Nat} (hl : xs.length = ys.length) (hk : xs.length ≤ k) (h : ∀ j (h : j < xs.length) (h2 : j < ys.length), j < k → xs[j] = ys[j]) : xs = ys :=
  List.ext_getElem hl fun j h1 h2 => h j h1 h2 (by omega)
set_option maxHeartbeats 2000000 in
set_option maxRecDepth 100000 in
theorem specInts_any (u v : Value) (xs ys : List Int) (A B A2 B2 : Nat) (z z2 : Bool) (w : World) (hl : xs.length ≤ 1048576) (hB : B ≤ w.heap.size) (hB2 : B2 ≤ w.heap.size) (hu : IntsIn w A B z u xs) (hv : IntsIn w A2 B2 z2 v ys) : Calls Tryd.prog 80 #[u, v] w fun e w' => e = .returned (.bool (decide (xs = ys))) ∧ Below w.heap.size w w' := by
  obtain ⟨a, cap, rfl, _, _, hx⟩ := hu
  obtain ⟨a2, cap2, rfl, _, _, hx2⟩ := hv
  have HX := Lib.hid hx
  have HX2 := Lib.hid hx2
  clear hx hx2
  by_cases hlen : xs.length = ys.length
  · have hne : ((xs.length : Int) != (ys.length : Int)) = false := by simp [hlen]
    go_enter Tryd.func80, Tryd.ntmps80
    go_wp2_with fail
    go_loopw [5] (fun i wr => EqRel w xs ys i wr) (fun i _ => xs.length - (intOf i).toNat)
    case atStart => exact ⟨0, Nat.zero_le _, rfl, fun j _ _ h => by omega, Below.refl _ _⟩
    case round =>
      obtain ⟨k, hk, rfl, hup, hb⟩ := hrel
      have HB := Lib.hid hb
      have HU := Lib.hid hup
      clear hb hup
      by_cases hlt : k < xs.length
      · obtain ⟨g, off, rfl, _, hg, hcl⟩ := HX.out (by omega)
        obtain ⟨g2, off2, rfl, _, hg2, hcl2⟩ := HX2.out (by omega)
        obtain ⟨x, hx⟩ : ∃ x, xs[k] = x := ⟨_, rfl⟩
        obtain ⟨y, hy⟩ : ∃ y, ys[k] = y := ⟨_, rfl⟩
        have c1 := (HB.out.cell (p := ⟨g, off + k, none⟩) (by show g < _; omega)).trans (hcl k hlt).1
        have c2 := (HB.out.cell (p := ⟨g2, off2 + k, none⟩) (by show g2 < _; omega)).trans (hcl2 k (by omega)).1
        rw [hx] at c1
        rw [hy] at c2
        have HXX := Lib.hid hx
        have HYY := Lib.hid hy
        have s1 : (k : Int) < xs.length := by omega
        have s2 : (k : Int) < ys.length := by omega
        have s0 : (0 : Int) ≤ (k : Int) := by omega
        clear hcl hcl2 hx hy
        by_cases he : x = y
        · subst he
          have nq : (x != x) = false := by simp
          go_wp2_with fail
          go_region
          all_goals go_wp2_with fail
          all_goals go_roundw
          case rel =>
            refine ⟨k + 1, by omega, by go_num, fun j h h2 hj => ?_, HB.out.drew⟩
            by_cases e : j = k
            · subst e
              rw [HXX.out, HYY.out]
            · exact HU.out j h h2 (by omega)
          case measure => simp [intOf]; omega
        · have nq : (x != y) = true := by simp [he]
          have HE : Hid (decide (xs = ys) = false) := Lib.hid (decide_eq_false fun e => he (by rw [← HXX.out, ← HYY.out]; simp only [e]))
          go_wp2_with fail
          go_region
          all_goals go_wp2_with fail
          all_goals go_ret
          all_goals exact ⟨bool_end HE.out.symm, HB.out.drew⟩
      · have s1 : ¬ (k : Int) < xs.length := by omega
        have HE : Hid (decide (xs = ys) = true) := Lib.hid (decide_eq_true (eq_all hlen (by omega) HU.out))
        go_wp2_with fail
        go_ret
        exact ⟨bool_end HE.out.symm, HB.out⟩
  · have hne : ((xs.length : Int) != (ys.length : Int)) = true := by
      rw [bne_iff_ne]
      omega
    have HE : Hid (decide (xs = ys) = false) := Lib.hid (decide_eq_false fun e => hlen (by rw [e]))
    go_enter Tryd.func80, Tryd.ntmps80
    go_wp2_with fail
    go_ret
    exact ⟨bool_end HE.out.symm, Below.refl _ _⟩
set_option maxHeartbeats 2000000 in
set_option maxRecDepth 100000 in
theorem implInts_any (u v : Value) (xs ys : List Int) (A B A2 B2 : Nat) (z z2 : Bool) (w : World) (hl : xs.length ≤ 1048576) (hB : B ≤ w.heap.size) (hB2 : B2 ≤ w.heap.size) (hu : IntsIn w A B z u xs) (hv : IntsIn w A2 B2 z2 v ys) : Calls Tryd.prog 81 #[u, v] w fun e w' => e = .returned (.bool (decide (xs = ys))) ∧ Below w.heap.size w w' := by
  obtain ⟨a, cap, rfl, _, _, hx⟩ := hu
  obtain ⟨a2, cap2, rfl, _, _, hx2⟩ := hv
  have HX := Lib.hid hx
  have HX2 := Lib.hid hx2
  clear hx hx2
  by_cases hlen : xs.length = ys.length
  · have hne : ((xs.length : Int) != (ys.length : Int)) = false := by simp [hlen]
    go_enter Tryd.func81, Tryd.ntmps81
    go_wp2_with fail
    go_loopw [13] (fun i wr => EqRel w xs ys i wr) (fun i _ => xs.length - (intOf i).toNat)
    case atStart => exact ⟨0, Nat.zero_le _, rfl, fun j _ _ h => by omega, Below.refl _ _⟩
    case round =>
      obtain ⟨k, hk, rfl, hup, hb⟩ := hrel
      have HB := Lib.hid hb
      have HU := Lib.hid hup
      clear hb hup
      by_cases hlt : k < xs.length
      · obtain ⟨g, off, rfl, _, hg, hcl⟩ := HX.out (by omega)
        obtain ⟨g2, off2, rfl, _, hg2, hcl2⟩ := HX2.out (by omega)
        obtain ⟨x, hx⟩ : ∃ x, xs[k] = x := ⟨_, rfl⟩
        obtain ⟨y, hy⟩ : ∃ y, ys[k] = y := ⟨_, rfl⟩
        have c1 := (HB.out.cell (p := ⟨g, off + k, none⟩) (by show g < _; omega)).trans (hcl k hlt).1
        have c2 := (HB.out.cell (p := ⟨g2, off2 + k, none⟩) (by show g2 < _; omega)).trans (hcl2 k (by omega)).1
        rw [hx] at c1
        rw [hy] at c2
        have HXX := Lib.hid hx
        have HYY := Lib.hid hy
        have s1 : (k : Int) < xs.length := by omega
        have s2 : (k : Int) < ys.length := by omega
        have s0 : (0 : Int) ≤ (k : Int) := by omega
        clear hcl hcl2 hx hy
        by_cases he : x = y
        · subst he
          have nq : (x != x) = false := by simp
          go_wp2_with fail
          go_region
          all_goals go_wp2_with fail
          all_goals go_roundw
          case rel =>
            refine ⟨k + 1, by omega, by go_num, fun j h h2 hj => ?_, HB.out.drew⟩
            by_cases e : j = k
            · subst e
              rw [HXX.out, HYY.out]
            · exact HU.out j h h2 (by omega)
          case measure => simp [intOf]; omega
        · have nq : (x != y) = true := by simp [he]
          have HE : Hid (decide (xs = ys) = false) := Lib.hid (decide_eq_false fun e => he (by rw [← HXX.out, ← HYY.out]; simp only [e]))
          go_wp2_with fail
          go_region
          all_goals go_wp2_with fail
          all_goals go_ret
          all_goals exact ⟨bool_end HE.out.symm, HB.out.drew⟩
      · have s1 : ¬ (k : Int) < xs.length := by omega
        have HE : Hid (decide (xs = ys) = true) := Lib.hid (decide_eq_true (eq_all hlen (by omega) HU.out))
        go_wp2_with fail
        go_ret
        exact ⟨bool_end HE.out.symm, HB.out⟩
  · have hne : ((xs.length : Int) != (ys.length : Int)) = true := by
      rw [bne_iff_ne]
      omega
    have HE : Hid (decide (xs = ys) = false) := Lib.hid (decide_eq_false fun e => hlen (by rw [e]))
    go_enter Tryd.func81, Tryd.ntmps81
    go_wp2_with fail
    go_ret
    exact ⟨bool_end HE.out.symm, Below.refl _ _⟩
set_option maxHeartbeats 4000000 in
set_option maxRecDepth 100000 in
theorem specSameT_any (A B A2 B2 : Nat) (z z2 : Bool) : ∀ (n : Nat) (a b : Tr) (va ka vb kb : Value) (w : World), a.l.size ≤ maxLen → b.l.size ≤ maxLen → wtT n a ≤ 1048576 → wtT n b ≤ 1048576 → B ≤ w.heap.size → B2 ≤ w.heap.size → NodeIn w A B z n a va ka → NodeIn w A2 B2 z2 n b vb kb →
    Calls Tryd.prog 52 #[.agg #[.string a.l, va, ka], .agg #[.string b.l, vb, kb]] w fun e w' => e = .returned (.bool (sameT n a b)) ∧ Below w.heap.size w w' := by
  intro n
  induction n with
  | zero => intro a b va ka vb kb w _ _ _ _ _ _ h; exact h.elim
  | succ n ih =>
    intro a b va ka vb kb w ma mb wa wb hB hB2 ha hb
    obtain ⟨⟨a1, a2, a3, rfl⟩, a4, a5, a6, rfl⟩ := ha.forms
    obtain ⟨⟨b1, b2, b3, rfl⟩, b4, b5, b6, rfl⟩ := hb.forms
    obtain ⟨hia, hka⟩ := ha.parts
    obtain ⟨hib, hkb⟩ := hb.parts
    obtain ⟨_, _, e, hla, hma, _⟩ := id hka
    injection e with e1 e2 e3
    subst e1 e2 e3
    obtain ⟨_, _, e, hlb, hmb, _⟩ := id hkb
    injection e with e1 e2 e3
    subst e1 e2 e3
    have hwa := wt_parts wa
    have hwb := wt_parts wb
    have hb0 := ((Below.refl w.heap.size w).alloc (Nat.le_refl _) (.cells #[.string a.l, .slice a1 a2 a3, .slice a4 a.ks.length a6] 30)).alloc (by simp) (.cells #[.string b.l, .slice b1 b2 b3, .slice b4 b.ks.length b6] 30)
    have PA := (NdB.new w 30 a.l (.slice a1 a2 a3) (.slice a4 a.ks.length a6)).alloc (.cells #[.string b.l, .slice b1 b2 b3, .slice b4 b.ks.length b6] 30)
    have PB := NdB.new (w.alloc (.cells #[.string a.l, .slice a1 a2 a3, .slice a4 a.ks.length a6] 30)) 30 b.l (.slice b1 b2 b3) (.slice b4 b.ks.length b6)
    rw [World.size_alloc] at PB
    have hsz : w.heap.size ≤ ((w.alloc (.cells #[.string a.l, .slice a1 a2 a3, .slice a4 a.ks.length a6] 30)).alloc (.cells #[.string b.l, .slice b1 b2 b3, .slice b4 b.ks.length b6] 30)).heap.size := by simp; omega
    have HI := Lib.hid (specInts_any _ _ a.ids b.ids A B A2 B2 z z2 _ (by omega) (Nat.le_trans hB hsz) (Nat.le_trans hB2 hsz) (hia.below hb0 hB) (hib.below hb0 hB2))
    have HB0 := Lib.hid hb0
    have HPA := Lib.hid PA
    have HPB := Lib.hid PB
    have HKA := Lib.hid hka
    have HKB := Lib.hid hkb
    have IH := Lib.hid ih
    obtain ⟨c0, c1, c2⟩ := PA.at
    obtain ⟨d0, d1, d2⟩ := PB.at
    unfold maxLen at hma hmb
    clear hb0 PA PB hia hib hka hkb ih ha hb
    cases gl : (a.l.toList == b.l.toList) with
    | false =>
      have HE : Hid (sameT (n + 1) a b = false) := Lib.hid (by rw [sameT, gl]; rfl)
      have g1 : (a.l.toList != b.l.toList) = true := by rw [bne, gl]; rfl
      go_enter Tryd.func52, Tryd.ntmps52
      go_wp2_with fail
      go_ret
      exact ⟨bool_end HE.out.symm, HB0.out⟩
    | true =>
      have g1 : (a.l.toList != b.l.toList) = false := by rw [bne, gl]; rfl
      by_cases gi : a.ids = b.ids
      · rw [decide_eq_true gi] at HI
        by_cases gk : a.ks.length = b.ks.length
        · have HE := Lib.hid (same_at (n := n) gl gi gk)
          have g2 : ((a.ks.length : Int) != (b.ks.length : Int)) = false := by simp [gk]
          have GK := Lib.hid gk
          have g3 : ((a.ks.length : Int) == (b.ks.length : Int)) = true := by simp [gk]
          clear gi gk
          go_enter Tryd.func52, Tryd.ntmps52
          go_wp2_with fail
          refine HI.out.mono ?_
          rintro e w1 ⟨rfl, hb⟩
          have HB1 := Lib.hid (HB0.out.trans (hb.mono HB0.out.size))
          have HPA1 := Lib.hid (HPA.out.stays hb)
          have HPB1 := Lib.hid (HPB.out.stays hb)
          clear hb c0 c1 c2 d0 d1 d2
          obtain ⟨c0, c1, c2⟩ := HPA1.out.at
          obtain ⟨d0, d1, d2⟩ := HPB1.out.at
          go_wp2_with fail
          go_loopw [5] (fun i wr => ∃ k : Nat, k ≤ a.ks.length ∧ i = .int .i64 k ∧ (∀ j, j < a.ks.length → j < k → sameT n (a.ks.getD j default) (b.ks.getD j default) = true) ∧ Below w1.heap.size w1 wr) (fun i _ => a.ks.length - (intOf i).toNat)
          case atStart => exact ⟨0, Nat.zero_le _, rfl, fun j _ h => by omega, Below.refl _ _⟩
          case round =>
            obtain ⟨k, hk, rfl, hup, hb⟩ := hrel
            have HBr := Lib.hid hb
            have HU := Lib.hid hup
            have HBW := Lib.hid (HB1.out.trans (hb.mono HB1.out.size))
            clear c0 c1 c2 d0 d1 d2
            obtain ⟨c0, c1, c2⟩ := (HPA1.out.stays hb).at
            obtain ⟨d0, d1, d2⟩ := (HPB1.out.stays hb).at
            clear hb hup
            by_cases hlt : k < a.ks.length
            · obtain ⟨_, _, e, _, _, hxa⟩ := HKA.out
              injection e with e1 _ e3
              subst e1 e3
              obtain ⟨_, _, e, _, _, hxb⟩ := HKB.out
              injection e with e1 _ e3
              subst e1 e3
              obtain ⟨ga, oa, rfl, _, hga, hca⟩ := hxa (by omega)
              obtain ⟨gb, ob, rfl, _, hgb, hcb⟩ := hxb (by have := GK.out; omega)
              have hltb : k < b.ks.length := by have := GK.out; omega
              obtain ⟨msa, _, x0, xi, xk, x1, x2, xN⟩ := hca k hlt
              obtain ⟨msb, _, y0, yi, yk, y1, y2, yN⟩ := hcb k hltb
              have HDA : Hid (a.ks.getD k default = a.ks[k]) := Lib.hid (by rw [List.getD_eq_getElem?_getD, List.getElem?_eq_getElem hlt]; rfl)
              have HDB : Hid (b.ks.getD k default = b.ks[k]'hltb) := Lib.hid (by rw [List.getD_eq_getElem?_getD, List.getElem?_eq_getElem hltb]; rfl)
              have hwka := kid_weighs (n := n) (List.getElem_mem hlt)
              have hwkb := kid_weighs (n := n) (List.getElem_mem hltb)
              obtain ⟨p, hp⟩ : ∃ p : Tr, a.ks[k] = p := ⟨_, rfl⟩
              obtain ⟨q, hq⟩ : ∃ q : Tr, b.ks[k]'hltb = q := ⟨_, rfl⟩
              rw [hp] at msa x0 xN HDA hwka
              rw [hq] at msb y0 yN HDB hwkb
              obtain ⟨⟨p1, p2, p3, rfl⟩, p4, p5, p6, rfl⟩ := xN.forms
              obtain ⟨⟨q1, q2, q3, rfl⟩, q4, q5, q6, rfl⟩ := yN.forms
              have hb2 := HBW.out
              have k0 := BCl.cell ((hb2.cell (p := ⟨ga, oa + k * 3, none⟩) (by show ga < _; omega)).trans x0)
              have k1 := BCl.cell ((hb2.cell (p := ⟨ga, oa + k * 3 + 1, none⟩) (by show ga < _; omega)).trans x1)
              have k2 := BCl.cell ((hb2.cell (p := ⟨ga, oa + k * 3 + 2, none⟩) (by show ga < _; omega)).trans x2)
              have l0 := BCl.cell ((hb2.cell (p := ⟨gb, ob + k * 3, none⟩) (by show gb < _; omega)).trans y0)
              have l1 := BCl.cell ((hb2.cell (p := ⟨gb, ob + k * 3 + 1, none⟩) (by show gb < _; omega)).trans y1)
              have l2 := BCl.cell ((hb2.cell (p := ⟨gb, ob + k * 3 + 2, none⟩) (by show gb < _; omega)).trans y2)
              have m2 := BCl.cell c2
              have n2 := BCl.cell d2
              obtain ⟨bs, hbs⟩ : ∃ bs, sameT n p q = bs := ⟨_, rfl⟩
              have hszr := hb2.size
              have HC : Hid (∀ i : BCl wr, Calls Tryd.prog 52 #[.agg #[.string p.l, .slice p1 p2 p3, .slice p4 p5 p6], .agg #[.string q.l, .slice q1 q2 q3, .slice q4 q5 q6]] i.w fun e w' => e = .returned (.bool bs) ∧ Below i.w.heap.size i.w w') := Lib.hid (fun i => by
                rw [← hbs]
                exact IH.out p q _ _ _ _ i.w msa msb (by omega) (by omega) (Nat.le_trans hB (Nat.le_trans hszr i.below.size)) (Nat.le_trans hB2 (Nat.le_trans hszr i.below.size)) (xN.below (hb2.trans (i.below.mono hszr)) hB) (yN.below (hb2.trans (i.below.mono hszr)) hB2))
              have HBS := Lib.hid hbs
              have s1 : (k : Int) < a.ks.length := by omega
              have s2 : (k : Int) < b.ks.length := by omega
              have s0 : (0 : Int) ≤ (k : Int) := by omega
              have hNe : Nonempty (BCl wr) := BCl.full wr
              clear hxa hxb hca hcb x0 x1 x2 y0 y1 y2 xN yN hp hq hwka hwkb hbs hb2
              go_wp2_with fail
              refine wp_region_below (fun w' => ∃ i : BCl wr, w' = i.w) (by kernel_rfl) (by kernel_rfl) (BCl.start wr) ?_
              repeat (go_big_quiet_step (first
                | (go_at_call 52; rename_i i; with_reducible refine (HC.out i).mono ?_; intro e w' h; exact ⟨h.1, i.next h.2⟩)))
              refine wpQuiet_nil ?_
              intro _ hw'
              obtain ⟨i, rfl⟩ := hw'
              clear k0 k1 k2 l0 l1 l2 m2 n2
              cases bs with
              | false =>
                have HF : Hid (sameT (n + 1) a b = false) := Lib.hid (by rw [HE.out]; exact same_no hlt (by rw [HDA.out, HDB.out]; exact HBS.out))
                go_wp2_with fail
                go_ret
                exact ⟨bool_end HF.out.symm, HBW.out.trans (i.below.mono HBW.out.size)⟩
              | true =>
                go_wp2_with fail
                go_roundw
                case rel =>
                  refine ⟨k + 1, by omega, by go_num, fun j hj hjk => ?_, HBr.out.trans (i.below.mono HBr.out.size)⟩
                  by_cases e : j = k
                  · subst e
                    rw [HDA.out, HDB.out]
                    exact HBS.out
                  · exact HU.out j hj (by omega)
                case measure => simp [intOf]; omega
            · have s1 : ¬ (k : Int) < a.ks.length := by omega
              have HF : Hid (sameT (n + 1) a b = true) := Lib.hid (by rw [HE.out]; exact same_yes (by omega) HU.out)
              go_wp2_with fail
              go_ret
              exact ⟨bool_end HF.out.symm, HBW.out⟩
        · have HE : Hid (sameT (n + 1) a b = false) := Lib.hid (by rw [sameT, decide_eq_false gk]; simp)
          have g2 : ((a.ks.length : Int) != (b.ks.length : Int)) = true := by rw [bne_iff_ne]; omega
          go_enter Tryd.func52, Tryd.ntmps52
          go_wp2_with fail
          refine HI.out.mono ?_
          rintro e w1 ⟨rfl, hb⟩
          have HB1 := Lib.hid (HB0.out.trans (hb.mono HB0.out.size))
          have HPA1 := Lib.hid (HPA.out.stays hb)
          have HPB1 := Lib.hid (HPB.out.stays hb)
          clear hb c0 c1 c2 d0 d1 d2
          obtain ⟨c0, c1, c2⟩ := HPA1.out.at
          obtain ⟨d0, d1, d2⟩ := HPB1.out.at
          go_wp2_with fail
          go_ret
          exact ⟨bool_end HE.out.symm, HB1.out⟩
      · rw [decide_eq_false gi] at HI
        have HE : Hid (sameT (n + 1) a b = false) := Lib.hid (by rw [sameT, decide_eq_false gi]; simp)
        go_enter Tryd.func52, Tryd.ntmps52
        go_wp2_with fail
        refine HI.out.mono ?_
        rintro e w1 ⟨rfl, hb⟩
        have HB1 := Lib.hid (HB0.out.trans (hb.mono HB0.out.size))
        clear hb
        go_wp2_with fail
        go_ret
        exact ⟨bool_end HE.out.symm, HB1.out⟩
/-- What is said of the program's look at two nodes, n deep. -/
def SameLaw (A B A2 B2 : Nat) (z z2 : Bool) (n : Nat) : Prop := ∀ (a b : Tr) (va ka vb kb : Value) (w : World), a.l.size ≤ maxLen → b.l.size ≤ maxLen → wtT n a ≤ 1048576 → wtT n b ≤ 1048576 → B ≤ w.heap.size → B2 ≤ w.heap.size → NodeIn w A B z n a va ka → NodeIn w A2 B2 z2 n b vb kb →
    Calls Tryd.prog 53 #[.agg #[.string a.l, va, ka], .agg #[.string b.l, vb, kb]] w fun e w' => e = .returned (.bool (sameT n a b)) ∧ Below w.heap.size w w'
set_option maxHeartbeats 4000000 in
set_option maxRecDepth 100000 in
theorem equalKids_any (A B A2 B2 : Nat) (z z2 : Bool) (n : Nat) (ih : SameLaw A B A2 B2 z z2 n) (a b : Tr) (ka kb : Value) (w : World) (hwa : a.ks.length + (a.ks.map (wtT n)).sum ≤ 1048576) (hwb : b.ks.length + (b.ks.map (wtT n)).sum ≤ 1048576) (hB : B ≤ w.heap.size) (hB2 : B2 ≤ w.heap.size) (hka : KidsIn w A B z n ka a.ks) (hkb : KidsIn w A2 B2 z2 n kb b.ks) :
    Calls Tryd.prog 82 #[ka, kb, .func (.func 53) #[] #[]] w fun e w' => e = .returned (.bool (decide (a.ks.length = b.ks.length) && (List.range a.ks.length).all fun j => sameT n (a.ks.getD j default) (b.ks.getD j default))) ∧ Below w.heap.size w w' := by
  obtain ⟨a4, a6, rfl, hla, hma, _⟩ := id hka
  obtain ⟨b4, b6, rfl, hlb, hmb, _⟩ := id hkb
  have HKA := Lib.hid hka
  have HKB := Lib.hid hkb
  have IH := Lib.hid ih
  unfold maxLen at hma hmb
  clear hka hkb ih
  by_cases gk : a.ks.length = b.ks.length
  · have HE : Hid ((decide (a.ks.length = b.ks.length) && (List.range a.ks.length).all fun j => sameT n (a.ks.getD j default) (b.ks.getD j default)) = (List.range a.ks.length).all fun j => sameT n (a.ks.getD j default) (b.ks.getD j default)) := Lib.hid (by rw [decide_eq_true gk]; rfl)
    have g2 : ((a.ks.length : Int) != (b.ks.length : Int)) = false := by simp [gk]
    have g3 : ((a.ks.length : Int) == (b.ks.length : Int)) = true := by simp [gk]
    have GK := Lib.hid gk
    clear gk
    go_enter Tryd.func82, Tryd.ntmps82
    go_wp2_with fail
    go_loopw [17] (fun i wr => ∃ k : Nat, k ≤ a.ks.length ∧ i = .int .i64 k ∧ (∀ j, j < a.ks.length → j < k → sameT n (a.ks.getD j default) (b.ks.getD j default) = true) ∧ Below w.heap.size w wr) (fun i _ => a.ks.length - (intOf i).toNat)
    case atStart => exact ⟨0, Nat.zero_le _, rfl, fun j _ h => by omega, Below.refl _ _⟩
    case round =>
      obtain ⟨k, hk, rfl, hup, hb⟩ := hrel
      have HBW := Lib.hid hb
      have HU := Lib.hid hup
      clear hb hup
      by_cases hlt : k < a.ks.length
      · obtain ⟨_, _, e, _, _, hxa⟩ := HKA.out
        injection e with e1 _ e3
        subst e1 e3
        obtain ⟨_, _, e, _, _, hxb⟩ := HKB.out
        injection e with e1 _ e3
        subst e1 e3
        obtain ⟨ga, oa, rfl, _, hga, hca⟩ := hxa (by omega)
        obtain ⟨gb, ob, rfl, _, hgb, hcb⟩ := hxb (by have := GK.out; omega)
        have hltb : k < b.ks.length := by have := GK.out; omega
        obtain ⟨msa, _, x0, xi, xk, x1, x2, xN⟩ := hca k hlt
        obtain ⟨msb, _, y0, yi, yk, y1, y2, yN⟩ := hcb k hltb
        have HDA : Hid (a.ks.getD k default = a.ks[k]) := Lib.hid (by rw [List.getD_eq_getElem?_getD, List.getElem?_eq_getElem hlt]; rfl)
        have HDB : Hid (b.ks.getD k default = b.ks[k]'hltb) := Lib.hid (by rw [List.getD_eq_getElem?_getD, List.getElem?_eq_getElem hltb]; rfl)
        have hwka := kid_weighs (n := n) (List.getElem_mem hlt)
        have hwkb := kid_weighs (n := n) (List.getElem_mem hltb)
        obtain ⟨p, hp⟩ : ∃ p : Tr, a.ks[k] = p := ⟨_, rfl⟩
        obtain ⟨q, hq⟩ : ∃ q : Tr, b.ks[k]'hltb = q := ⟨_, rfl⟩
        rw [hp] at msa x0 xN HDA hwka
        rw [hq] at msb y0 yN HDB hwkb
        obtain ⟨⟨p1, p2, p3, rfl⟩, p4, p5, p6, rfl⟩ := xN.forms
        obtain ⟨⟨q1, q2, q3, rfl⟩, q4, q5, q6, rfl⟩ := yN.forms
        have hszr := HBW.out.size
        have hb1 : Below w.heap.size w (wr.alloc (.cells #[.string p.l, .slice p1 p2 p3, .slice p4 p5 p6] 30)) := HBW.out.alloc hszr _
        have hb2 : Below w.heap.size w ((wr.alloc (.cells #[.string p.l, .slice p1 p2 p3, .slice p4 p5 p6] 30)).alloc (.cells #[.string q.l, .slice q1 q2 q3, .slice q4 q5 q6] 30)) := hb1.alloc (by simp; omega) _
        have k0 := (HBW.out.cell (p := ⟨ga, oa + k * 3, none⟩) (by show ga < _; omega)).trans x0
        have k1 := (HBW.out.cell (p := ⟨ga, oa + k * 3 + 1, none⟩) (by show ga < _; omega)).trans x1
        have k2 := (HBW.out.cell (p := ⟨ga, oa + k * 3 + 2, none⟩) (by show ga < _; omega)).trans x2
        have l0 := (hb1.cell (p := ⟨gb, ob + k * 3, none⟩) (by show gb < _; omega)).trans y0
        have l1 := (hb1.cell (p := ⟨gb, ob + k * 3 + 1, none⟩) (by show gb < _; omega)).trans y1
        have l2 := (hb1.cell (p := ⟨gb, ob + k * 3 + 2, none⟩) (by show gb < _; omega)).trans y2
        have P1 := (NdB.new wr 30 p.l (.slice p1 p2 p3) (.slice p4 p5 p6)).alloc (.cells #[.string q.l, .slice q1 q2 q3, .slice q4 q5 q6] 30)
        have P2 := NdB.new (wr.alloc (.cells #[.string p.l, .slice p1 p2 p3, .slice p4 p5 p6] 30)) 30 q.l (.slice q1 q2 q3) (.slice q4 q5 q6)
        rw [World.size_alloc] at P2
        obtain ⟨f0, f1, f2⟩ := P1.at
        obtain ⟨h0, h1, h2⟩ := P2.at
        obtain ⟨bs, hbs⟩ : ∃ bs, sameT n p q = bs := ⟨_, rfl⟩
        have HC := Lib.hid (IH.out p q _ _ _ _ _ msa msb (by omega) (by omega) (Nat.le_trans hB hb2.size) (Nat.le_trans hB2 hb2.size) (xN.below hb2 hB) (yN.below hb2 hB2))
        rw [hbs] at HC
        have HBS := Lib.hid hbs
        have HB2 := Lib.hid hb2
        have s1 : (k : Int) < a.ks.length := by omega
        have s2 : (k : Int) < b.ks.length := by omega
        clear hxa hxb hca hcb x0 x1 x2 y0 y1 y2 xN yN hp hq hwka hwkb hbs hb1 hb2 P1 P2
        go_wp2_with fail
        refine HC.out.mono ?_
        rintro e w3 ⟨rfl, hb3⟩
        have HB3 := Lib.hid (HB2.out.trans (hb3.mono HB2.out.size))
        clear hb3
        cases bs with
        | false =>
          have HF : Hid (((List.range a.ks.length).all fun j => sameT n (a.ks.getD j default) (b.ks.getD j default)) = false) := Lib.hid (same_no hlt (by rw [HDA.out, HDB.out]; exact HBS.out))
          go_wp2_with fail
          go_ret
          exact ⟨bool_end (HE.out.trans HF.out).symm, HB3.out⟩
        | true =>
          go_wp2_with fail
          go_roundw
          case rel =>
            refine ⟨k + 1, by omega, by go_num, fun j hj hjk => ?_, HB3.out⟩
            by_cases e : j = k
            · subst e
              rw [HDA.out, HDB.out]
              exact HBS.out
            · exact HU.out j hj (by omega)
          case measure => simp [intOf]; omega
      · have s1 : ¬ (k : Int) < a.ks.length := by omega
        have HF := Lib.hid (same_yes (n := n) (b := b) (by omega : a.ks.length ≤ k) HU.out)
        go_wp2_with fail
        go_ret
        exact ⟨bool_end (HE.out.trans HF.out).symm, HBW.out⟩
  · have HE : Hid ((decide (a.ks.length = b.ks.length) && (List.range a.ks.length).all fun j => sameT n (a.ks.getD j default) (b.ks.getD j default)) = false) := Lib.hid (by rw [decide_eq_false gk]; rfl)
    have g2 : ((a.ks.length : Int) != (b.ks.length : Int)) = true := by rw [bne_iff_ne]; omega
    go_enter Tryd.func82, Tryd.ntmps82
    go_wp2_with fail
    go_ret
    exact ⟨bool_end HE.out.symm, Below.refl _ _⟩
set_option maxHeartbeats 4000000 in
set_option maxRecDepth 100000 in
theorem sameNodes_any (A B A2 B2 : Nat) (z z2 : Bool) : ∀ n : Nat, SameLaw A B A2 B2 z z2 n := by
  intro n
  induction n with
  | zero => intro a b va ka vb kb w _ _ _ _ _ _ h; exact h.elim
  | succ n ih =>
    intro a b va ka vb kb w ma mb wa wb hB hB2 ha hb
    obtain ⟨⟨a1, a2, a3, rfl⟩, a4, a5, a6, rfl⟩ := ha.forms
    obtain ⟨⟨b1, b2, b3, rfl⟩, b4, b5, b6, rfl⟩ := hb.forms
    obtain ⟨hia, hka⟩ := ha.parts
    obtain ⟨hib, hkb⟩ := hb.parts
    have hwa := wt_parts wa
    have hwb := wt_parts wb
    have hb0 := ((Below.refl w.heap.size w).alloc (Nat.le_refl _) (.cells #[.string a.l, .slice a1 a2 a3, .slice a4 a5 a6] 30)).alloc (by simp) (.cells #[.string b.l, .slice b1 b2 b3, .slice b4 b5 b6] 30)
    have PA := (NdB.new w 30 a.l (.slice a1 a2 a3) (.slice a4 a5 a6)).alloc (.cells #[.string b.l, .slice b1 b2 b3, .slice b4 b5 b6] 30)
    have PB := NdB.new (w.alloc (.cells #[.string a.l, .slice a1 a2 a3, .slice a4 a5 a6] 30)) 30 b.l (.slice b1 b2 b3) (.slice b4 b5 b6)
    rw [World.size_alloc] at PB
    have hsz : w.heap.size ≤ ((w.alloc (.cells #[.string a.l, .slice a1 a2 a3, .slice a4 a5 a6] 30)).alloc (.cells #[.string b.l, .slice b1 b2 b3, .slice b4 b5 b6] 30)).heap.size := by simp; omega
    have HI := Lib.hid (implInts_any _ _ a.ids b.ids A B A2 B2 z z2 _ (by omega) (Nat.le_trans hB hsz) (Nat.le_trans hB2 hsz) (hia.below hb0 hB) (hib.below hb0 hB2))
    have HB0 := Lib.hid hb0
    have HPA := Lib.hid PA
    have HPB := Lib.hid PB
    have HKA := Lib.hid (hka.below hb0 hB)
    have HKB := Lib.hid (hkb.below hb0 hB2)
    have IH := Lib.hid ih
    obtain ⟨c0, c1, c2⟩ := PA.at
    obtain ⟨d0, d1, d2⟩ := PB.at
    clear hb0 PA PB hia hib hka hkb ih ha hb
    cases gl : (a.l.toList == b.l.toList) with
    | false =>
      have HE : Hid (sameT (n + 1) a b = false) := Lib.hid (by rw [sameT, gl]; rfl)
      go_enter Tryd.func53, Tryd.ntmps53
      go_wp2_with fail
      go_ret
      exact ⟨bool_end HE.out.symm, HB0.out⟩
    | true =>
      by_cases gi : a.ids = b.ids
      · rw [decide_eq_true gi] at HI
        have HE : Hid (sameT (n + 1) a b = (decide (a.ks.length = b.ks.length) && (List.range a.ks.length).all fun j => sameT n (a.ks.getD j default) (b.ks.getD j default))) := Lib.hid (by rw [sameT, gl, decide_eq_true gi]; rfl)
        clear gi
        go_enter Tryd.func53, Tryd.ntmps53
        go_wp2_with fail
        refine HI.out.mono ?_
        rintro e w1 ⟨rfl, hb⟩
        have HB1 := Lib.hid (HB0.out.trans (hb.mono HB0.out.size))
        have HPA1 := Lib.hid (HPA.out.stays hb)
        have HPB1 := Lib.hid (HPB.out.stays hb)
        have hs1 := Nat.le_trans hsz hb.size
        have HQ := Lib.hid (equalKids_any A B A2 B2 z z2 n IH.out a b _ _ w1 hwa.2 hwb.2 (Nat.le_trans hB hs1) (Nat.le_trans hB2 hs1) (HKA.out.below hb (Nat.le_trans hB hsz)) (HKB.out.below hb (Nat.le_trans hB2 hsz)))
        clear hb c0 c1 c2 d0 d1 d2
        obtain ⟨c0, c1, c2⟩ := HPA1.out.at
        obtain ⟨d0, d1, d2⟩ := HPB1.out.at
        go_wp2_with fail
        refine HQ.out.mono ?_
        rintro e w2 ⟨rfl, hb⟩
        have HB2 := Lib.hid (HB1.out.trans (hb.mono HB1.out.size))
        clear hb
        go_wp2_with fail
        go_ret
        exact ⟨bool_end HE.out.symm, HB2.out⟩
      · rw [decide_eq_false gi] at HI
        have HE : Hid (sameT (n + 1) a b = false) := Lib.hid (by rw [sameT, decide_eq_false gi]; simp)
        go_enter Tryd.func53, Tryd.ntmps53
        go_wp2_with fail
        refine HI.out.mono ?_
        rintro e w1 ⟨rfl, hb⟩
        have HB1 := Lib.hid (HB0.out.trans (hb.mono HB0.out.size))
        clear hb
        go_wp2_with fail
        go_ret
        exact ⟨bool_end HE.out.symm, HB1.out⟩
end Go.Proofs.YtcaabnnkjnleeaaDoor
