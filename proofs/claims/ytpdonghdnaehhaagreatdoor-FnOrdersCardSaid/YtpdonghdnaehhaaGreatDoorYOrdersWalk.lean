/- FnOrders: the walk of the law over drawn cookies. No condition of its own. -/
import Derived.Test.YtpdonghdnaehhaaGreatDoorYCkSame
import Derived.Test.YtpdonghdnaehhaaGreatDoorYCkHead
import Derived.Test.YtpdonghdnaehhaaGreatDoorYCkCovers
import Derived.Deep.DeepCutAuto
namespace Go.Proofs.YtpdonghdnaehhaaGreatDoor
open Go.ChangeShapes Go.WideShapes Go.ChangeAt Go.WideMaps Go.WideElems Go.RowKit

theorem drawn_wt {q : Ck} (h : CkDrawn q) : wtC q ≤ 40 := by
  obtain ⟨h1, h2, h3, h4, h5⟩ := h
  have a1 := name_texts _ h2
  have a2 := val_texts _ h3
  have a3 := host_sizes _ h4
  have a4 := (path_texts _ h5.1).2
  unfold wtC
  omega
theorem ok_id {q : Ck} {i : Int} (h : ckOK q = true) (h1 : 1 ≤ i) (h2 : i ≤ 1000000000000) : ckOK { q with i := i } = true := by
  unfold ckOK at h ⊢
  simp only [Bool.and_eq_true] at h ⊢
  exact ⟨by unfold inRange; exact decide_eq_true ⟨h1, h2⟩, h.2⟩
theorem ok_low {q : Ck} (h : ckOK q = true) : 1 ≤ q.i := by
  unfold ckOK at h
  simp only [Bool.and_eq_true] at h
  have := h.1
  unfold inRange at this
  simp at this
  omega
theorem first_self {q : Ck} : firstB q q = false := by
  unfold firstB
  simp
theorem key_self {q : Ck} : keyB q q = true := by
  unfold keyB
  simp
theorem first_not {a b : Ck} (h : a.i < b.i) : firstB b a = !firstB a b := by
  unfold firstB
  by_cases h1 : a.p.size = b.p.size
  · by_cases h2 : a.m = b.m
    · rw [if_neg (by omega), if_neg (by omega), if_neg (by omega), if_neg (by omega), decide_eq_true h, decide_eq_false (by omega)]
      rfl
    · rw [if_neg (by omega), if_pos (by omega), if_neg (by omega), if_pos h2]
      by_cases h3 : a.m < b.m
      · rw [decide_eq_true h3, decide_eq_false (by omega)]
        rfl
      · rw [decide_eq_false h3, decide_eq_true (by omega)]
        rfl
  · rw [if_pos (by omega), if_pos h1]
    by_cases h3 : b.p.size < a.p.size
    · rw [decide_eq_true h3, decide_eq_false (by omega)]
      rfl
    · rw [decide_eq_false h3, decide_eq_true (by omega)]
      rfl
theorem goes_not {a b : Ck} (now : Int) (h : a.i < b.i) : goesB b a now = !goesB a b now := by
  by_cases h1 : decide (a.x ≤ now) = decide (b.x ≤ now)
  · by_cases h2 : a.sc = b.sc
    · by_cases h3 : a.u = b.u
      · have e1 : goesB b a now = decide (b.i < a.i) := by unfold goesB; rw [if_neg (fun e => e h1.symm), if_neg (fun e => e h2.symm), if_neg (fun e => e h3.symm)]
        have e2 : goesB a b now = decide (a.i < b.i) := by unfold goesB; rw [if_neg (fun e => e h1), if_neg (fun e => e h2), if_neg (fun e => e h3)]
        rw [e1, e2, decide_eq_true h, decide_eq_false (by omega)]
        rfl
      · have e1 : goesB b a now = decide (b.u < a.u) := by unfold goesB; rw [if_neg (fun e => e h1.symm), if_neg (fun e => e h2.symm), if_pos (fun e => h3 e.symm)]
        have e2 : goesB a b now = decide (a.u < b.u) := by unfold goesB; rw [if_neg (fun e => e h1), if_neg (fun e => e h2), if_pos h3]
        rw [e1, e2]
        by_cases h4 : a.u < b.u
        · rw [decide_eq_true h4, decide_eq_false (by omega)]
          rfl
        · rw [decide_eq_false h4, decide_eq_true (by omega)]
          rfl
    · have e1 : goesB b a now = a.sc := by unfold goesB; rw [if_neg (fun e => e h1.symm), if_pos (fun e => h2 e.symm)]
      have e2 : goesB a b now = b.sc := by unfold goesB; rw [if_neg (fun e => e h1), if_pos h2]
      rw [e1, e2]
      cases ha : a.sc <;> cases hb : b.sc <;> simp_all
  · have e1 : goesB b a now = decide (b.x ≤ now) := by unfold goesB; rw [if_pos (fun e => h1 e.symm)]
    have e2 : goesB a b now = decide (a.x ≤ now) := by unfold goesB; rw [if_pos h1]
    rw [e1, e2]
    cases ha : decide (a.x ≤ now) <;> cases hb : decide (b.x ≤ now)
    · exact absurd (ha.trans hb.symm) h1
    · rfl
    · rfl
    · exact absurd (ha.trans hb.symm) h1
set_option maxHeartbeats 4000000 in
set_option maxRecDepth 100000 in
theorem cookieDrawn_any (v : Value) (len : Nat) (w : World) (h : CodeIn w v len) : Calls Tryz.prog 23 #[v] w fun e w' => ∃ q : Ck, e = .returned (.agg #[.int .i64 q.i, .string q.n, .string q.v, .string q.d, .string q.p, .bool q.ho, .bool q.sc, .bool q.ht, .int .i64 q.s, .int .i64 q.x, .int .i64 q.m, .int .i64 q.u]) ∧ CkDrawn q ∧ Below w.heap.size w w' := by
  have HC := Lib.hid h
  have Z0 : Hid (CkB (w.alloc (.cells #[.int .i64 0, .string ⟨#[]⟩, .string ⟨#[]⟩, .string ⟨#[]⟩, .string ⟨#[]⟩, .bool false, .bool false, .bool false, .int .i64 0, .int .i64 0, .int .i64 0, .int .i64 0] 41)) w.heap.size zck) := Lib.hid (CkB.new w zck)
  have HB0 : Hid (Below w.heap.size w (w.alloc (.cells #[.int .i64 0, .string ⟨#[]⟩, .string ⟨#[]⟩, .string ⟨#[]⟩, .string ⟨#[]⟩, .bool false, .bool false, .bool false, .int .i64 0, .int .i64 0, .int .i64 0, .int .i64 0] 41))) := Lib.hid ((Below.refl _ _).alloc (Nat.le_refl _) _)
  clear h
  go_enter Tryz.func23, Tryz.ntmps23
  go_wp2_with fail
  refine (source_any _ _ _ (HC.out.below HB0.out)).mono ?_
  rintro e w1 ⟨rfl, hsrc, hb⟩
  have HX : Hid (Src (w.heap.size + 1) v len 0 w1) := Lib.hid (by rw [show (w.alloc (.cells #[.int .i64 0, .string ⟨#[]⟩, .string ⟨#[]⟩, .string ⟨#[]⟩, .string ⟨#[]⟩, .bool false, .bool false, .bool false, .int .i64 0, .int .i64 0, .int .i64 0, .int .i64 0] 41)).heap.size = w.heap.size + 1 by simp] at hsrc; exact hsrc)
  have HB := Lib.hid (HB0.out.trans (hb.mono HB0.out.size))
  have Z1 := Lib.hid (Z0.out.stays hb)
  clear hsrc hb
  go_wp2_with fail
  refine (cookieSrc_any (w.heap.size + 1) v len 0 w1 (by omega) HX.out (Src.lt HX.out)).mono ?_
  rintro e w2 ⟨q, rfl, hd, _, hg⟩
  have HD := Lib.hid hd
  have hz := Z1.out.grown hg (by omega)
  have HG := Lib.hid (ck_below_grow HB.out hg (fun r e => by have e2 : w.heap.size + 1 = r := Option.some.inj e; omega))
  have HZ := Lib.hid hz
  obtain ⟨d0, d1, d2, d3, d4, d5, d6, d7, d8, d9, d10, d11⟩ := hz.at
  have g0 := hz.free 0
  have g1 := hz.free 1
  have g2 := hz.free 2
  have g3 := hz.free 3
  have g4 := hz.free 4
  have g5 := hz.free 5
  have g6 := hz.free 6
  have g7 := hz.free 7
  have g8 := hz.free 8
  have g9 := hz.free 9
  have g10 := hz.free 10
  have g11 := hz.free 11
  clear hd hg hz
  go_wp2_with fail
  have hk := ((((((((((((HZ.out.set0 q.i).set1 q.n).set2 q.v).set3 q.d).set4 q.p).set5 q.ho).set6 q.sc).set7 q.ht).set8 q.s).set9 q.x).set10 q.m).set11 q.u)
  obtain ⟨k0, k1, k2, k3, k4, k5, k6, k7, k8, k9, k10, k11⟩ := hk.at
  refine bodyPost_ret (v := .agg #[.int .i64 q.i, .string q.n, .string q.v, .string q.d, .string q.p, .bool q.ho, .bool q.sc, .bool q.ht, .int .i64 q.s, .int .i64 q.x, .int .i64 q.m, .int .i64 q.u]) (by simp [results, Tryz.results23, go_sem, k0, k1, k2, k3, k4, k5, k6, k7, k8, k9, k10, k11]) rfl ⟨q, rfl, HD.out, ((((((((((((HG.out.setCell (p := ⟨w.heap.size, 0, none⟩) (Nat.le_refl _) _).setCell (p := ⟨w.heap.size, 1, none⟩) (Nat.le_refl _) _).setCell (p := ⟨w.heap.size, 2, none⟩) (Nat.le_refl _) _).setCell (p := ⟨w.heap.size, 3, none⟩) (Nat.le_refl _) _).setCell (p := ⟨w.heap.size, 4, none⟩) (Nat.le_refl _) _).setCell (p := ⟨w.heap.size, 5, none⟩) (Nat.le_refl _) _).setCell (p := ⟨w.heap.size, 6, none⟩) (Nat.le_refl _) _).setCell (p := ⟨w.heap.size, 7, none⟩) (Nat.le_refl _) _).setCell (p := ⟨w.heap.size, 8, none⟩) (Nat.le_refl _) _).setCell (p := ⟨w.heap.size, 9, none⟩) (Nat.le_refl _) _).setCell (p := ⟨w.heap.size, 10, none⟩) (Nat.le_refl _) _).setCell (p := ⟨w.heap.size, 11, none⟩) (Nat.le_refl _) _)⟩
theorem CkB.drewN {w : World} {B : Nat} {q : Ck} (h : CkB w B q) (m : Nat) : CkB (w.drewN m) B q := h
def OrCut (W : World) (ba bb : Nat) (qa qb : Ck) (wx : World) : Prop := ∃ r : Nat, r < 9 ∧ CkB wx ba qa ∧ CkB wx bb { qb with i := qa.i + 1 + r } ∧ Below W.heap.size W wx
/-- The number set. -/
theorem ckAt_id {w : World} {g o : Nat} {q : Ck} (h : CkAt w g o q) (y : Int) : CkAt (w.setCell ⟨g, o, none⟩ (.int .i64 y)) g o { q with i := y } := by
  obtain ⟨c0, c1, c2, c3, c4, c5, c6, c7, c8, c9, c10, c11⟩ := h
  exact ⟨cell_put_eq c0, (cell_put_ne (by omega)).trans c1, (cell_put_ne (by omega)).trans c2, (cell_put_ne (by omega)).trans c3, (cell_put_ne (by omega)).trans c4, (cell_put_ne (by omega)).trans c5, (cell_put_ne (by omega)).trans c6, (cell_put_ne (by omega)).trans c7, (cell_put_ne (by omega)).trans c8, (cell_put_ne (by omega)).trans c9, (cell_put_ne (by omega)).trans c10, (cell_put_ne (by omega)).trans c11⟩
theorem ckAt_away {w : World} {g o t : Nat} {q : Ck} {u : Value} (h : CkAt w g t q) (ht : t + 12 ≤ o ∨ o + 12 ≤ t) : CkAt (w.setCell ⟨g, o, none⟩ u) g t q := by
  obtain ⟨c0, c1, c2, c3, c4, c5, c6, c7, c8, c9, c10, c11⟩ := h
  exact ⟨(cell_put_ne (by omega)).trans c0, (cell_put_ne (by omega)).trans c1, (cell_put_ne (by omega)).trans c2, (cell_put_ne (by omega)).trans c3, (cell_put_ne (by omega)).trans c4, (cell_put_ne (by omega)).trans c5, (cell_put_ne (by omega)).trans c6, (cell_put_ne (by omega)).trans c7, (cell_put_ne (by omega)).trans c8, (cell_put_ne (by omega)).trans c9, (cell_put_ne (by omega)).trans c10, (cell_put_ne (by omega)).trans c11⟩
theorem or_wt_small : ∀ qs : List Ck, (∀ q ∈ qs, wtC q ≤ 40) → wtL qs ≤ 40 * qs.length
  | [], _ => Nat.le_refl _
  | q :: qs, h => by
    have h1 := h q (by simp)
    have h2 := or_wt_small qs (fun x hx => h x (by simp [hx]))
    simp only [wtL, List.map_cons, List.foldr_cons, List.length_cons] at h2 ⊢
    omega
/-- Cookies numbered from one on. -/
def idL (qs : List Ck) : List Ck := qs.mapIdx fun j q => { q with i := (j : Int) + 1 }
theorem idL_length (qs : List Ck) : (idL qs).length = qs.length := by simp [idL]
theorem idL_get (qs : List Ck) (j : Nat) (hj : j < (idL qs).length) : (idL qs)[j] = { qs[j]'(by rw [idL_length] at hj; exact hj) with i := (j : Int) + 1 } := by simp [idL]
def IdRel (W : World) (a : Option Addr) (qs : List Ck) (i : Value) (wr : World) : Prop :=
  ∃ k : Nat, k ≤ qs.length ∧ i = .int .i64 k ∧ Below W.heap.size W wr ∧ (0 < qs.length → ∃ g, a = some ⟨g, 0, none⟩ ∧ W.heap.size ≤ g ∧ g < wr.heap.size ∧ (∀ t, t < qs.length * 12 → wr.frozen? ⟨g, t, none⟩ = false) ∧ ∀ j (hj : j < qs.length), CkAt wr g (j * 12) (if j < k then { qs[j] with i := (j : Int) + 1 } else qs[j]))
theorem id_row {W : World} {a : Option Addr} {cap : Nat} {qs : List Ck} {wr : World} (hc : qs.length ≤ cap) (hm : cap ≤ maxLen) (h : 0 < qs.length → ∃ g, a = some ⟨g, 0, none⟩ ∧ W.heap.size ≤ g ∧ g < wr.heap.size ∧ (∀ t, t < qs.length * 12 → wr.frozen? ⟨g, t, none⟩ = false) ∧ ∀ j (hj : j < qs.length), CkAt wr g (j * 12) (if j < qs.length then { qs[j] with i := (j : Int) + 1 } else qs[j])) : RowCk wr W.heap.size (.slice a qs.length cap) (idL qs) := by
  refine ⟨a, cap, by rw [idL_length], by rw [idL_length]; exact hc, hm, fun h0 => ?_⟩
  rw [idL_length] at h0
  obtain ⟨g, rfl, h1, h2, h3, h4⟩ := h h0
  refine ⟨g, rfl, h1, h2, fun t ht => h3 t (by rw [idL_length] at ht; exact ht), fun j hj => ?_⟩
  have hj2 : j < qs.length := by rw [idL_length] at hj; exact hj
  have := h4 j hj2
  rw [if_pos hj2] at this
  rw [idL_get]
  exact this
set_option maxHeartbeats 8000000 in
set_option maxRecDepth 100000 in
theorem walk_FnOrders (W : World) (a0 : Option Addr) (len0 cap0 : Nat) (hm0 : len0 ≤ cap0 ∧ cap0 ≤ maxLen ∧ (a0 = none → cap0 = 0)) (hc0 : len0 ≤ 4611686018427387904 → CodeIn W (.slice a0 len0 cap0) len0) (a1 : Option Addr) (len1 cap1 : Nat) (hm1 : len1 ≤ cap1 ∧ cap1 ≤ maxLen ∧ (a1 = none → cap1 = 0)) (hc1 : len1 ≤ 4611686018427387904 → CodeIn W (.slice a1 len1 cap1) len1)
    (hL : laidMetH Tryz.prog Rows.fnOrdersRow.laid W) (hSh : W.ShapedOpen Tryz.prog) :
    Calls Tryz.prog 4 #[.slice a0 len0 cap0, .slice a1 len1 cap1] W fun e w' => e = .returned (.bool true) ∧ Below W.heap.size W w' := by
  rw [MakeChecks.laidMetH_plain _ _ _ (by kernel_rfl)] at hL
  obtain ⟨hT, hN⟩ := laid8 hL
  have HT := Lib.hid hT
  have HNX := Lib.hid hN
  have HMX := Lib.hid (max_of hSh)
  clear hT hN hL hSh
  unfold maxLen at hm0 hm1
  obtain ⟨hm0, hk0, _⟩ := hm0
  obtain ⟨hm1, hk1, _⟩ := hm1
  by_cases h0 : 1048576 < len0
  · clear hc0 hc1
    go_enter Tryz.func4, Tryz.ntmps4
    go_wp2
    go_ret
    exact ⟨rfl, Below.refl _ _⟩
  by_cases h1 : 1048576 < len1
  · clear hc0 hc1
    go_enter Tryz.func4, Tryz.ntmps4
    go_wp2
    go_ret
    exact ⟨rfl, Below.refl _ _⟩
  have C0 := Lib.hid (hc0 (by omega))
  have C1 := Lib.hid (hc1 (by omega))
  clear hc0 hc1
  go_enter Tryz.func4, Tryz.ntmps4
  go_wp2_with fail
  refine (cookieDrawn_any _ _ _ C0.out).mono ?_
  rintro e w1 ⟨qa, rfl, hda, hb⟩
  have HDA := Lib.hid hda
  have B1 := Lib.hid (hb.alloc hb.size (.cells #[.int .i64 qa.i, .string qa.n, .string qa.v, .string qa.d, .string qa.p, .bool qa.ho, .bool qa.sc, .bool qa.ht, .int .i64 qa.s, .int .i64 qa.x, .int .i64 qa.m, .int .i64 qa.u] 41))
  have P1 := Lib.hid (CkB.new w1 qa)
  clear hb hda
  go_wp2_with fail
  refine (cookieDrawn_any _ _ _ (C1.out.below B1.out)).mono ?_
  rintro e w2 ⟨qb0, rfl, hdb, hb⟩
  have HDB := Lib.hid hdb
  have hb2 := B1.out.trans (hb.mono B1.out.size)
  have B2 := Lib.hid (hb2.alloc hb2.size (.cells #[.int .i64 qb0.i, .string qb0.n, .string qb0.v, .string qb0.d, .string qb0.p, .bool qb0.ho, .bool qb0.sc, .bool qb0.ht, .int .i64 qb0.s, .int .i64 qb0.x, .int .i64 qb0.m, .int .i64 qb0.u] 41))
  have P2 := Lib.hid ((P1.out.stays hb).alloc (.cells #[.int .i64 qb0.i, .string qb0.n, .string qb0.v, .string qb0.d, .string qb0.p, .bool qb0.ho, .bool qb0.sc, .bool qb0.ht, .int .i64 qb0.s, .int .i64 qb0.x, .int .i64 qb0.m, .int .i64 qb0.u] 41))
  have Q2 := Lib.hid (CkB.new w2 qb0)
  have hne : Hid (w2.heap.size ≠ w1.heap.size) := Lib.hid (by have := (P1.out.stays hb).lt; omega)
  have hge : Hid (W.heap.size ≤ w2.heap.size) := Lib.hid hb2.size
  clear hb hdb hb2
  obtain ⟨c0, c1, c2, c3, c4, c5, c6, c7, c8, c9, c10, c11⟩ := P2.out.at
  obtain ⟨d0, d1, d2, d3, d4, d5, d6, d7, d8, d9, d10, d11⟩ := Q2.out.at
  have f0 := Q2.out.free 0
  have hi1 := ok_low HDA.out.1
  have hi2 := HDA.out.2.2.2.2.2
  have hw0 : IntKind.i64.wrap (qa.i + 1) = qa.i + 1 := by rw [IntKind.wrap_i64]; omega
  go_wp2_with fail
  go_cut [] (fun wx => OrCut W w1.heap.size w2.heap.size qa qb0 wx)
  case first =>
    go_region_with (first | (go_at_call 24; refine (at_any _ _ 0 9 _ (by omega) (by omega) (by omega) (C1.out.below (show Below W.heap.size W _ from B2.out.drew))).mono ?_; rintro e w3 ⟨r, rfl, hr, m, rfl⟩; have hw1 : IntKind.i64.wrap (qa.i + 1 + (r : Int)) = qa.i + 1 + r := by rw [IntKind.wrap_i64]; omega))
    all_goals
      go_wp2_with fail
      go_meet
      try rw [hw0]
      try rw [hw1]
      exact ⟨r, hr, (P2.out.drewN _).other hne.out, (Q2.out.drewN _).set0 _, (below_drewN B2.out _).setCell (p := ⟨w2.heap.size, 0, none⟩) hge.out _⟩
  case rest =>
    obtain ⟨r, hr, hp, hq, hb⟩ := hcut
    obtain ⟨qb, hqb⟩ : ∃ qb : Ck, qb = { qb0 with i := qa.i + 1 + r } := ⟨_, rfl⟩
    rw [← hqb] at hq
    have hokb : ckOK qb = true := by rw [hqb]; exact ok_id HDB.out.1 (by omega) (by omega)
    have hwb : wtC qb ≤ 40 := by rw [hqb]; exact (show wtC qb0 ≤ 40 from drawn_wt HDB.out)
    have hlt : qa.i < qb.i := by rw [hqb]; show qa.i < qa.i + 1 + r; omega
    have hoka := HDA.out.1
    have hsa := sz_of (q := qa) (by have := drawn_wt HDA.out; omega)
    have hsb := sz_of (q := qb) (by omega)
    have BX := Lib.hid hb
    have PX := Lib.hid hp
    have QX := Lib.hid hq
    clear c0 c1 c2 c3 c4 c5 c6 c7 c8 c9 c10 c11
    clear d0 d1 d2 d3 d4 d5 d6 d7 d8 d9 d10 d11
    clear hp hq hb f0 P2 Q2 B2 P1 hwb hr
    go_wp2_with fail
    refine (at_any _ _ 1 100 _ (by omega) (by omega) (by omega) (C1.out.below BX.out)).mono ?_
    rintro e w9 ⟨nw, rfl, hnw, m, hw9⟩
    replace BX : Hid (Below W.heap.size W w9) := Lib.hid (by rw [hw9]; exact below_drewN BX.out m)
    replace PX : Hid (CkB w9 w1.heap.size qa) := Lib.hid (by rw [hw9]; exact PX.out.drewN m)
    replace QX : Hid (CkB w9 w2.heap.size qb) := Lib.hid (by rw [hw9]; exact QX.out.drewN m)
    clear hw9
    obtain ⟨now, hnow⟩ : ∃ now : Int, (nw : Int) = now := ⟨_, rfl⟩
    rw [hnow]
    clear hnow hnw
    obtain ⟨r1, hr1⟩ : ∃ b, firstB qa qb = b := ⟨_, rfl⟩
    obtain ⟨r2, hr2⟩ : ∃ b, goesB qa qb now = b := ⟨_, rfl⟩
    obtain ⟨r3, hr3⟩ : ∃ b, keyB qa qb = b := ⟨_, rfl⟩
    obtain ⟨r4, hr4⟩ : ∃ b, coversB qa qb = b := ⟨_, rfl⟩
    have hr1n : firstB qb qa = !r1 := by rw [first_not hlt, hr1]
    have hr2n : goesB qb qa now = !r2 := by rw [goes_not now hlt, hr2]
    have A1 : Hid (∀ w : World, TabAt w → Calls Tryz.prog 25 #[.agg #[.int .i64 qa.i, .string qa.n, .string qa.v, .string qa.d, .string qa.p, .bool qa.ho, .bool qa.sc, .bool qa.ht, .int .i64 qa.s, .int .i64 qa.x, .int .i64 qa.m, .int .i64 qa.u]] w fun e w' => e = .returned (.bool true) ∧ Below w.heap.size w w') := Lib.hid fun w hT => by
      have h := cookieOK_at qa w hsa hT
      rwa [hoka] at h
    have A2 : Hid (∀ w : World, TabAt w → Calls Tryz.prog 26 #[.agg #[.int .i64 qa.i, .string qa.n, .string qa.v, .string qa.d, .string qa.p, .bool qa.ho, .bool qa.sc, .bool qa.ht, .int .i64 qa.s, .int .i64 qa.x, .int .i64 qa.m, .int .i64 qa.u], .agg #[.int .i64 qb.i, .string qb.n, .string qb.v, .string qb.d, .string qb.p, .bool qb.ho, .bool qb.sc, .bool qb.ht, .int .i64 qb.s, .int .i64 qb.x, .int .i64 qb.m, .int .i64 qb.u]] w fun e w' => e = .returned (.bool r1) ∧ Below w.heap.size w w') := Lib.hid fun w hT => by
      have h := implFirst qa qb w hsa hsb hT
      rwa [hoka, hokb, hr1] at h
    have A3 : Hid (∀ w : World, Calls Tryz.prog 27 #[.agg #[.int .i64 qa.i, .string qa.n, .string qa.v, .string qa.d, .string qa.p, .bool qa.ho, .bool qa.sc, .bool qa.ht, .int .i64 qa.s, .int .i64 qa.x, .int .i64 qa.m, .int .i64 qa.u], .agg #[.int .i64 qb.i, .string qb.n, .string qb.v, .string qb.d, .string qb.p, .bool qb.ho, .bool qb.sc, .bool qb.ht, .int .i64 qb.s, .int .i64 qb.x, .int .i64 qb.m, .int .i64 qb.u]] w fun e w' => e = .returned (.bool r1) ∧ Below w.heap.size w w') := Lib.hid fun w  => by
      have h := specFirst qa qb w hsa hsb
      rwa [hoka, hokb, hr1] at h
    have A4 : Hid (∀ w : World, TabAt w → Calls Tryz.prog 26 #[.agg #[.int .i64 qb.i, .string qb.n, .string qb.v, .string qb.d, .string qb.p, .bool qb.ho, .bool qb.sc, .bool qb.ht, .int .i64 qb.s, .int .i64 qb.x, .int .i64 qb.m, .int .i64 qb.u], .agg #[.int .i64 qa.i, .string qa.n, .string qa.v, .string qa.d, .string qa.p, .bool qa.ho, .bool qa.sc, .bool qa.ht, .int .i64 qa.s, .int .i64 qa.x, .int .i64 qa.m, .int .i64 qa.u]] w fun e w' => e = .returned (.bool (!r1)) ∧ Below w.heap.size w w') := Lib.hid fun w hT => by
      have h := implFirst qb qa w hsb hsa hT
      rwa [hoka, hokb, hr1n] at h
    have A5 : Hid (∀ w : World, TabAt w → Calls Tryz.prog 28 #[.agg #[.int .i64 qa.i, .string qa.n, .string qa.v, .string qa.d, .string qa.p, .bool qa.ho, .bool qa.sc, .bool qa.ht, .int .i64 qa.s, .int .i64 qa.x, .int .i64 qa.m, .int .i64 qa.u], .agg #[.int .i64 qb.i, .string qb.n, .string qb.v, .string qb.d, .string qb.p, .bool qb.ho, .bool qb.sc, .bool qb.ht, .int .i64 qb.s, .int .i64 qb.x, .int .i64 qb.m, .int .i64 qb.u], .int .i64 now] w fun e w' => e = .returned (.bool r2) ∧ Below w.heap.size w w') := Lib.hid fun w hT => by
      have h := implGoes qa qb now w hsa hsb hT
      rwa [hoka, hokb, hr2] at h
    have A6 : Hid (∀ w : World, Calls Tryz.prog 29 #[.agg #[.int .i64 qa.i, .string qa.n, .string qa.v, .string qa.d, .string qa.p, .bool qa.ho, .bool qa.sc, .bool qa.ht, .int .i64 qa.s, .int .i64 qa.x, .int .i64 qa.m, .int .i64 qa.u], .agg #[.int .i64 qb.i, .string qb.n, .string qb.v, .string qb.d, .string qb.p, .bool qb.ho, .bool qb.sc, .bool qb.ht, .int .i64 qb.s, .int .i64 qb.x, .int .i64 qb.m, .int .i64 qb.u], .int .i64 now] w fun e w' => e = .returned (.bool r2) ∧ Below w.heap.size w w') := Lib.hid fun w  => by
      have h := specGoes qa qb now w hsa hsb
      rwa [hoka, hokb, hr2] at h
    have A7 : Hid (∀ w : World, TabAt w → Calls Tryz.prog 28 #[.agg #[.int .i64 qb.i, .string qb.n, .string qb.v, .string qb.d, .string qb.p, .bool qb.ho, .bool qb.sc, .bool qb.ht, .int .i64 qb.s, .int .i64 qb.x, .int .i64 qb.m, .int .i64 qb.u], .agg #[.int .i64 qa.i, .string qa.n, .string qa.v, .string qa.d, .string qa.p, .bool qa.ho, .bool qa.sc, .bool qa.ht, .int .i64 qa.s, .int .i64 qa.x, .int .i64 qa.m, .int .i64 qa.u], .int .i64 now] w fun e w' => e = .returned (.bool (!r2)) ∧ Below w.heap.size w w') := Lib.hid fun w hT => by
      have h := implGoes qb qa now w hsb hsa hT
      rwa [hoka, hokb, hr2n] at h
    have A8 : Hid (∀ w : World, TabAt w → Calls Tryz.prog 26 #[.agg #[.int .i64 qa.i, .string qa.n, .string qa.v, .string qa.d, .string qa.p, .bool qa.ho, .bool qa.sc, .bool qa.ht, .int .i64 qa.s, .int .i64 qa.x, .int .i64 qa.m, .int .i64 qa.u], .agg #[.int .i64 qa.i, .string qa.n, .string qa.v, .string qa.d, .string qa.p, .bool qa.ho, .bool qa.sc, .bool qa.ht, .int .i64 qa.s, .int .i64 qa.x, .int .i64 qa.m, .int .i64 qa.u]] w fun e w' => e = .returned (.bool false) ∧ Below w.heap.size w w') := Lib.hid fun w hT => by
      have h := implFirst qa qa w hsa hsa hT
      rwa [hoka, first_self] at h
    have A9 : Hid (∀ w : World, TabAt w → Calls Tryz.prog 30 #[.agg #[.int .i64 qa.i, .string qa.n, .string qa.v, .string qa.d, .string qa.p, .bool qa.ho, .bool qa.sc, .bool qa.ht, .int .i64 qa.s, .int .i64 qa.x, .int .i64 qa.m, .int .i64 qa.u], .agg #[.int .i64 qb.i, .string qb.n, .string qb.v, .string qb.d, .string qb.p, .bool qb.ho, .bool qb.sc, .bool qb.ht, .int .i64 qb.s, .int .i64 qb.x, .int .i64 qb.m, .int .i64 qb.u]] w fun e w' => e = .returned (.bool r3) ∧ Below w.heap.size w w') := Lib.hid fun w hT => by
      have h := implKey qa qb w hsa hsb hT
      rwa [hoka, hokb, hr3] at h
    have A10 : Hid (∀ w : World, Calls Tryz.prog 31 #[.agg #[.int .i64 qa.i, .string qa.n, .string qa.v, .string qa.d, .string qa.p, .bool qa.ho, .bool qa.sc, .bool qa.ht, .int .i64 qa.s, .int .i64 qa.x, .int .i64 qa.m, .int .i64 qa.u], .agg #[.int .i64 qb.i, .string qb.n, .string qb.v, .string qb.d, .string qb.p, .bool qb.ho, .bool qb.sc, .bool qb.ht, .int .i64 qb.s, .int .i64 qb.x, .int .i64 qb.m, .int .i64 qb.u]] w fun e w' => e = .returned (.bool r3) ∧ Below w.heap.size w w') := Lib.hid fun w  => by
      have h := specKey qa qb w hsa hsb
      rwa [hoka, hokb, hr3] at h
    have A11 : Hid (∀ w : World, TabAt w → Calls Tryz.prog 30 #[.agg #[.int .i64 qa.i, .string qa.n, .string qa.v, .string qa.d, .string qa.p, .bool qa.ho, .bool qa.sc, .bool qa.ht, .int .i64 qa.s, .int .i64 qa.x, .int .i64 qa.m, .int .i64 qa.u], .agg #[.int .i64 qa.i, .string qa.n, .string qa.v, .string qa.d, .string qa.p, .bool qa.ho, .bool qa.sc, .bool qa.ht, .int .i64 qa.s, .int .i64 qa.x, .int .i64 qa.m, .int .i64 qa.u]] w fun e w' => e = .returned (.bool true) ∧ Below w.heap.size w w') := Lib.hid fun w hT => by
      have h := implKey qa qa w hsa hsa hT
      rwa [hoka, key_self] at h
    have A12 : Hid (∀ w : World, TabAt w → MaxAt w → NumAt w → Calls Tryz.prog 32 #[.agg #[.int .i64 qa.i, .string qa.n, .string qa.v, .string qa.d, .string qa.p, .bool qa.ho, .bool qa.sc, .bool qa.ht, .int .i64 qa.s, .int .i64 qa.x, .int .i64 qa.m, .int .i64 qa.u], .agg #[.int .i64 qb.i, .string qb.n, .string qb.v, .string qb.d, .string qb.p, .bool qb.ho, .bool qb.sc, .bool qb.ht, .int .i64 qb.s, .int .i64 qb.x, .int .i64 qb.m, .int .i64 qb.u]] w fun e w' => e = .returned (.bool r4) ∧ Below w.heap.size w w') := Lib.hid fun w hT hM hN => by
      have h := implCov qa qb w hsa hsb hT hM hN
      rwa [hoka, hokb, hr4] at h
    have A13 : Hid (∀ w : World, Calls Tryz.prog 33 #[.agg #[.int .i64 qa.i, .string qa.n, .string qa.v, .string qa.d, .string qa.p, .bool qa.ho, .bool qa.sc, .bool qa.ht, .int .i64 qa.s, .int .i64 qa.x, .int .i64 qa.m, .int .i64 qa.u], .agg #[.int .i64 qb.i, .string qb.n, .string qb.v, .string qb.d, .string qb.p, .bool qb.ho, .bool qb.sc, .bool qb.ht, .int .i64 qb.s, .int .i64 qb.x, .int .i64 qb.m, .int .i64 qb.u]] w fun e w' => e = .returned (.bool r4) ∧ Below w.heap.size w w') := Lib.hid fun w  => by
      have h := specCov qa qb w hsa hsb
      rwa [hoka, hokb, hr4] at h
    clear hoka hokb hsa hsb hr1 hr2 hr3 hr4 hr1n hr2n hlt hqb hi1 hi2 HDA HDB
    have n1 : (r1 != r1) = false := by simp
    have n2 : (r1 == !r1) = false := by cases r1 <;> rfl
    have n3 : (r2 != r2) = false := by simp
    have n4 : (r2 == !r2) = false := by cases r2 <;> rfl
    have n5 : (r3 != r3) = false := by simp
    have n6 : (r4 != r4) = false := by simp
    go_wp2_with fail
    go_cut [111] (fun v wx => v = .bool false ∧ Below W.heap.size W wx)
    case first =>
      as_aux_lemma =>
        obtain ⟨c0, c1, c2, c3, c4, c5, c6, c7, c8, c9, c10, c11⟩ := PX.out.at
        obtain ⟨d0, d1, d2, d3, d4, d5, d6, d7, d8, d9, d10, d11⟩ := QX.out.at
        have hNe : Nonempty (BCl w9) := BCl.full w9
        have q0x := BCl.cell c0
        have q1x := BCl.cell c1
        have q2x := BCl.cell c2
        have q3x := BCl.cell c3
        have q4x := BCl.cell c4
        have q5x := BCl.cell c5
        have q6x := BCl.cell c6
        have q7x := BCl.cell c7
        have q8x := BCl.cell c8
        have q9x := BCl.cell c9
        have q10x := BCl.cell c10
        have q11x := BCl.cell c11
        have r0x := BCl.cell d0
        have r1x := BCl.cell d1
        have r2x := BCl.cell d2
        have r3x := BCl.cell d3
        have r4x := BCl.cell d4
        have r5x := BCl.cell d5
        have r6x := BCl.cell d6
        have r7x := BCl.cell d7
        have r8x := BCl.cell d8
        have r9x := BCl.cell d9
        have r10x := BCl.cell d10
        have r11x := BCl.cell d11
        clear c0 c1 c2 c3 c4 c5 c6 c7 c8 c9 c10 c11
        clear d0 d1 d2 d3 d4 d5 d6 d7 d8 d9 d10 d11
        simp only [List.append_eq, List.cons_append, List.nil_append]
        refine wp_region_below (fun w' => ∃ i : BCl w9, w' = i.w) (by kernel_rfl) (by kernel_rfl) (BCl.start w9) ?_
        repeat (go_big_quiet_step (first
          | (go_at_call 25; rename_i i; have hw := BX.out.trans (i.below.mono BX.out.size); have hT := HT.out.below hw; have hM := HMX.out.below hw; have hN := HNX.out.below hw; with_reducible refine (A1.out i.w hT).mono ?_; intro e w' h; exact ⟨h.1, i.next h.2⟩)
          | (go_at_call 26; rename_i i; have hw := BX.out.trans (i.below.mono BX.out.size); have hT := HT.out.below hw; have hM := HMX.out.below hw; have hN := HNX.out.below hw; with_reducible refine (A2.out i.w hT).mono ?_; intro e w' h; exact ⟨h.1, i.next h.2⟩)
          | (go_at_call 26; rename_i i; have hw := BX.out.trans (i.below.mono BX.out.size); have hT := HT.out.below hw; have hM := HMX.out.below hw; have hN := HNX.out.below hw; with_reducible refine (A4.out i.w hT).mono ?_; intro e w' h; exact ⟨h.1, i.next h.2⟩)
          | (go_at_call 26; rename_i i; have hw := BX.out.trans (i.below.mono BX.out.size); have hT := HT.out.below hw; have hM := HMX.out.below hw; have hN := HNX.out.below hw; with_reducible refine (A8.out i.w hT).mono ?_; intro e w' h; exact ⟨h.1, i.next h.2⟩)
          | (go_at_call 27; rename_i i; have hw := BX.out.trans (i.below.mono BX.out.size); have hT := HT.out.below hw; have hM := HMX.out.below hw; have hN := HNX.out.below hw; with_reducible refine (A3.out i.w).mono ?_; intro e w' h; exact ⟨h.1, i.next h.2⟩)
          | (go_at_call 28; rename_i i; have hw := BX.out.trans (i.below.mono BX.out.size); have hT := HT.out.below hw; have hM := HMX.out.below hw; have hN := HNX.out.below hw; with_reducible refine (A5.out i.w hT).mono ?_; intro e w' h; exact ⟨h.1, i.next h.2⟩)
          | (go_at_call 28; rename_i i; have hw := BX.out.trans (i.below.mono BX.out.size); have hT := HT.out.below hw; have hM := HMX.out.below hw; have hN := HNX.out.below hw; with_reducible refine (A7.out i.w hT).mono ?_; intro e w' h; exact ⟨h.1, i.next h.2⟩)
          | (go_at_call 29; rename_i i; have hw := BX.out.trans (i.below.mono BX.out.size); have hT := HT.out.below hw; have hM := HMX.out.below hw; have hN := HNX.out.below hw; with_reducible refine (A6.out i.w).mono ?_; intro e w' h; exact ⟨h.1, i.next h.2⟩)
          | (go_at_call 30; rename_i i; have hw := BX.out.trans (i.below.mono BX.out.size); have hT := HT.out.below hw; have hM := HMX.out.below hw; have hN := HNX.out.below hw; with_reducible refine (A9.out i.w hT).mono ?_; intro e w' h; exact ⟨h.1, i.next h.2⟩)
          | (go_at_call 30; rename_i i; have hw := BX.out.trans (i.below.mono BX.out.size); have hT := HT.out.below hw; have hM := HMX.out.below hw; have hN := HNX.out.below hw; with_reducible refine (A11.out i.w hT).mono ?_; intro e w' h; exact ⟨h.1, i.next h.2⟩)
          | (go_at_call 31; rename_i i; have hw := BX.out.trans (i.below.mono BX.out.size); have hT := HT.out.below hw; have hM := HMX.out.below hw; have hN := HNX.out.below hw; with_reducible refine (A10.out i.w).mono ?_; intro e w' h; exact ⟨h.1, i.next h.2⟩)
          | (go_at_call 32; rename_i i; have hw := BX.out.trans (i.below.mono BX.out.size); have hT := HT.out.below hw; have hM := HMX.out.below hw; have hN := HNX.out.below hw; with_reducible refine (A12.out i.w hT hM hN).mono ?_; intro e w' h; exact ⟨h.1, i.next h.2⟩)
          | (go_at_call 33; rename_i i; have hw := BX.out.trans (i.below.mono BX.out.size); have hT := HT.out.below hw; have hM := HMX.out.below hw; have hN := HNX.out.below hw; with_reducible refine (A13.out i.w).mono ?_; intro e w' h; exact ⟨h.1, i.next h.2⟩)))
        refine wpQuiet_nil ?_
        intro _ hw'
        obtain ⟨i, rfl⟩ := hw'
        clear q0x r0x q1x r1x q2x r2x q3x r3x q4x r4x q5x r5x q6x r6x q7x r7x q8x r8x q9x r9x q10x r10x q11x r11x hNe
        go_wp2_with fail
        go_meet
        exact ⟨rfl, BX.out.trans (i.below.mono BX.out.size)⟩
    case rest =>
      obtain ⟨rfl, hb⟩ := hcut
      clear A1 A2 A3 A4 A5 A6 A7 A8 A9 A10 A11 A12 A13 n1 n2 n3 n4 n5 n6 BX PX QX
      have BX := Lib.hid hb
      clear hb
      go_wp2_with fail
      refine (cksDrawn_any _ _ _ (C0.out.below BX.out)).mono ?_
      rintro e w11 ⟨v, qs, rfl, hrow, hl5, hdr, hb⟩
      obtain ⟨a, cap, rfl, hcap1, hcap2, hrow⟩ := hrow
      have BD := Lib.hid hb
      have R1 := Lib.hid hrow
      have HD := Lib.hid hdr
      have HCAP := Lib.hid hcap2
      unfold maxLen at hcap2
      clear hb hrow hdr
      go_wp2_with fail
      go_loopw [9] (fun i wr => IdRel wc a qs i wr) (fun i _ => qs.length - (intOf i).toNat)
      case atStart => exact ⟨0, Nat.zero_le _, rfl, BD.out, fun h => by
        obtain ⟨g, rfl, h1, h2, h3, h4⟩ := R1.out h
        exact ⟨g, rfl, h1, h2, h3, fun j hj => by rw [if_neg (by omega)]; exact h4 j hj⟩⟩
      case round =>
        obtain ⟨k, hk, rfl, hb, hx⟩ := hrel
        have HB := Lib.hid hb
        have HX := Lib.hid hx
        clear hb hx
        by_cases hlt : k < qs.length
        · obtain ⟨g, rfl, hg1, hg2, hfz, hcl⟩ := HX.out (by omega)
          have hck := hcl k hlt
          rw [if_neg (by omega)] at hck
          obtain ⟨q, hq⟩ : ∃ q : Ck, qs[k] = q := ⟨_, rfl⟩
          rw [hq] at hck
          have HQ := Lib.hid hq
          have HCL := Lib.hid hcl
          have HFZ := Lib.hid hfz
          have HCK := Lib.hid hck
          have f0 := hfz (k * 12) (by omega)
          obtain ⟨c0, c1, c2, c3, c4, c5, c6, c7, c8, c9, c10, c11⟩ := hck
          have s1 : (k : Int) < qs.length := by omega
          clear hcl hq hfz
          go_wp2_with fail
          go_roundw
          case rel =>
            refine ⟨k + 1, by omega, by go_num, HB.out.setCell (p := ⟨g, k * 12, none⟩) hg1 _, fun _ => ⟨g, rfl, hg1, by simpa [World.setCell] using hg2, fun t ht => by rw [World.frozen?_setCell]; exact HFZ.out t ht, fun j hj => ?_⟩⟩
            by_cases e : j = k
            · subst e
              rw [if_pos (by omega), HQ.out]
              exact ckAt_id HCK.out _
            · have h := HCL.out j hj
              have hif : (if j < k + 1 then { qs[j] with i := (j : Int) + 1 } else qs[j]) = (if j < k then { qs[j] with i := (j : Int) + 1 } else qs[j]) := by
                by_cases hj2 : j < k
                · rw [if_pos hj2, if_pos (by omega)]
                · rw [if_neg hj2, if_neg (by omega)]
              rw [hif]
              exact ckAt_away h (by omega)
          case measure => simp [intOf]; omega
        · obtain rfl : k = qs.length := by omega
          have V2 := Lib.hid (id_row hcap1 HCAP.out HX.out)
          obtain ⟨ps, hps⟩ : ∃ ps, idL qs = ps := ⟨_, rfl⟩
          have hpl : ps.length = qs.length := by rw [← hps, idL_length]
          have hpd : ∀ x ∈ ps, ckOK x = true ∧ wtC x ≤ 40 := by
            intro x hx
            rw [← hps] at hx
            obtain ⟨j, hj, rfl⟩ := List.mem_iff_getElem.1 hx
            rw [idL_get]
            have hj2 : j < qs.length := by rw [idL_length] at hj; exact hj
            have hd := HD.out _ (List.getElem_mem hj2)
            exact ⟨ok_id hd.1 (by omega) (by omega), (show wtC qs[j] ≤ 40 from drawn_wt hd)⟩
          have hadj : AdjB firstB (sortB firstB ps) := sortB_adj firstB fun i k hik hk2 hf => by
            rw [first_not (a := ps[i]!) (b := ps[k]!) ?_] at hf
            · simpa using hf
            · rw [getElem!_pos ps i (by omega), getElem!_pos ps k hk2]
              simp only [← hps, idL_get]
              omega
          rw [hps] at V2
          have hl6 : ps.length ≤ 5 := by omega
          have HS6 : Hid (∀ x ∈ ps, sz6 x) := Lib.hid fun x hx => by
            have := (hpd x hx).2
            unfold wtC at this
            exact ⟨by omega, by omega, by omega, by omega⟩
          have HSC : Hid (∀ x ∈ ps, szC x) := Lib.hid fun x hx => szC_of (HS6.out x hx)
          have hall : allC ps = true := by
            unfold allC
            rw [List.all_eq_true]
            exact fun x hx => (hpd x hx).1
          have hcode : codeL ps = 0 := by unfold codeL; rw [if_neg (by omega), if_pos hall]
          have hwl : wtL ps ≤ 1048576 := by
            have := or_wt_small ps (fun x hx => (hpd x hx).2)
            omega
          obtain ⟨hd, hhd⟩ : ∃ s, hdV ps = s := ⟨_, rfl⟩
          have A1 : Hid (∀ w : World, RowCk w wc.heap.size (.slice a qs.length cap) ps → TabAt w → Calls Tryz.prog 37 #[.slice a qs.length cap] w fun e w' => e = .returned (.tuple #[.string hd, .int .i64 0]) ∧ Below w.heap.size w w') := Lib.hid fun w hr hT => by
            have h := implHead_any _ _ _ w hr (by omega) hwl hT
            rwa [hhd, hcode] at h
          have A2 : Hid (∀ w : World, RowCk w wc.heap.size (.slice a qs.length cap) ps → Calls Tryz.prog 38 #[.slice a qs.length cap] w fun e w' => e = .returned (.tuple #[.string hd, .int .i64 0]) ∧ Below w.heap.size w w') := Lib.hid fun w hr => by
            have h := specHeadOf_any _ _ _ w hr (by omega) hwl
            rwa [hhd, hcode] at h
          have HALL := Lib.hid hall
          have HADJ := Lib.hid hadj
          have HPD := Lib.hid hpd
          obtain ⟨ss, hss⟩ : ∃ ss, sortB firstB ps = ss := ⟨_, rfl⟩
          have hsl : ss.length = qs.length := by rw [← hss, sortB_length, hpl]
          have HSM : Hid (∀ x ∈ ss, x ∈ ps) := Lib.hid fun x hx => by rw [← hss] at hx; exact sortB_mem firstB hx
          rw [hss] at HADJ
          have HSS := Lib.hid hss
          have B12 := Lib.hid (BX.out.trans (HB.out.mono BX.out.size))
          clear hpd hadj hall hcode hwl hhd hss hps hl5 HX BD R1 HD HB BX
          go_wp2_with fail
          refine (implSort_any _ _ ps _ V2.out (by omega) HS6.out HALL.out (HT.out.below B12.out)).mono ?_
          rintro e w13 ⟨u1, rfl, hr, hb⟩
          rw [HSS.out] at hr
          have B13 := Lib.hid (B12.out.trans (hb.mono B12.out.size))
          have V3 := Lib.hid (V2.out.below hb)
          have R13 := Lib.hid hr
          obtain ⟨aS, capS, rfl, _⟩ := hr
          clear hb
          go_wp2_with fail
          refine (specSort_any _ _ ps _ V3.out (by omega) HSC.out HALL.out).mono ?_
          rintro e w14 ⟨u2, rfl, hr, hb⟩
          rw [HSS.out] at hr
          have B14 := Lib.hid (B13.out.trans (hb.mono B13.out.size))
          have V4 := Lib.hid (V3.out.below hb)
          have R14 := Lib.hid (R13.out.below hb)
          have Q14 := Lib.hid hr
          obtain ⟨aT, capT, rfl, _⟩ := hr
          clear hb
          go_wp2_with fail
          refine (A1.out _ V4.out (HT.out.below B14.out)).mono ?_
          rintro e w15 ⟨rfl, hb⟩
          have B15 := Lib.hid (B14.out.trans (hb.mono B14.out.size))
          have V5 := Lib.hid (V4.out.below hb)
          have R15 := Lib.hid (R14.out.below hb)
          have Q15 := Lib.hid (Q14.out.below hb)
          clear hb
          go_wp2_with fail
          refine (A2.out _ V5.out).mono ?_
          rintro e w16 ⟨rfl, hb⟩
          have B16 := Lib.hid (B15.out.trans (hb.mono B15.out.size))
          have R16 := Lib.hid (R15.out.below hb)
          have Q16 := Lib.hid (Q15.out.below hb)
          clear hb A1 A2
          have n1 : (hd.toList != hd.toList) = false := by simp
          have n2 : ((qs.length : Int) != (qs.length : Int)) = false := by simp
          rw [hsl] at R16 Q16
          have HSL := Lib.hid hsl
          go_wp2_with fail
          refine (sameCk_any _ _ wr.heap.size w13.heap.size ss _ (by omega) (by first | exact R16.out | (rw [HSL.out]; exact R16.out)) (by first | exact Q16.out | (rw [HSL.out]; exact Q16.out))).mono ?_
          rintro e w17 ⟨rfl, hb⟩
          have B17 := Lib.hid (B16.out.trans (hb.mono B16.out.size))
          have R17 := Lib.hid (R16.out.below hb)
          clear hb
          go_wp2_with fail
          go_loopw [18] (fun i wx => ∃ k : Nat, 1 ≤ k ∧ (k ≤ qs.length ∨ k = 1) ∧ i = .int .i64 k ∧ Below w17.heap.size w17 wx) (fun i _ => qs.length + 1 - (intOf i).toNat)
          case atStart => exact ⟨1, Nat.le_refl _, Or.inr rfl, rfl, Below.refl _ _⟩
          case round =>
            obtain ⟨k, hk1, hk2, rfl, hb⟩ := hrel
            have HB := Lib.hid hb
            by_cases hlt : k < qs.length
            · obtain ⟨kp, rfl⟩ : ∃ kp, k = kp + 1 := ⟨k - 1, by omega⟩
              have hsl := HSL.out
              obtain ⟨g, hg, hcl⟩ : ∃ g, (aS = some ⟨g, 0, none⟩ ∧ g < w17.heap.size) ∧ ∀ j (hj : j < ss.length), CkAt w17 g (j * 12) ss[j] := by
                obtain ⟨a', cap', e1, _, _, h3⟩ := R17.out
                injection e1 with e2 e3 e4
                obtain ⟨g, rfl, _, hgl, _, hc⟩ := h3 (by omega)
                exact ⟨g, ⟨e2, hgl⟩, hc⟩
              obtain ⟨rfl, hgl⟩ := hg
              obtain ⟨x, hx⟩ : ∃ x, ss[kp]'(by omega) = x := ⟨_, rfl⟩
              obtain ⟨y, hy⟩ : ∃ y, ss[kp + 1]'(by omega) = y := ⟨_, rfl⟩
              have ckx := (hcl kp (by omega)).below hb hgl
              have cky := (hcl (kp + 1) (by omega)).below hb hgl
              have hxm := HSM.out _ (List.getElem_mem (show kp < ss.length by omega))
              have hym := HSM.out _ (List.getElem_mem (show kp + 1 < ss.length by omega))
              have hf := HADJ.out kp (by omega)
              rw [getElem!_pos ss kp (by omega), getElem!_pos ss (kp + 1) (by omega)] at hf
              rw [hx] at ckx hxm hf
              rw [hy] at cky hym hf
              have hox := (HPD.out x hxm).1
              have hoy := (HPD.out y hym).1
              have AF : Hid (∀ w : World, TabAt w → Calls Tryz.prog 26 #[.agg #[.int .i64 x.i, .string x.n, .string x.v, .string x.d, .string x.p, .bool x.ho, .bool x.sc, .bool x.ht, .int .i64 x.s, .int .i64 x.x, .int .i64 x.m, .int .i64 x.u], .agg #[.int .i64 y.i, .string y.n, .string y.v, .string y.d, .string y.p, .bool y.ho, .bool y.sc, .bool y.ht, .int .i64 y.s, .int .i64 y.x, .int .i64 y.m, .int .i64 y.u]] w fun e w' => e = .returned (.bool true) ∧ Below w.heap.size w w') := Lib.hid fun w hT => by
                have h := implFirst x y w (HSC.out x hxm) (HSC.out y hym) hT
                rwa [hox, hoy, hf] at h
              have BXX := Lib.hid (B17.out.trans (hb.mono B17.out.size))
              have hN : Nonempty (BCl wr) := BCl.full wr
              obtain ⟨c0, c1, c2, c3, c4, c5, c6, c7, c8, c9, c10, c11⟩ := ckx
              obtain ⟨d0, d1, d2, d3, d4, d5, d6, d7, d8, d9, d10, d11⟩ := cky
              have q0x := BCl.cell c0
              have q1x := BCl.cell c1
              have q2x := BCl.cell c2
              have q3x := BCl.cell c3
              have q4x := BCl.cell c4
              have q5x := BCl.cell c5
              have q6x := BCl.cell c6
              have q7x := BCl.cell c7
              have q8x := BCl.cell c8
              have q9x := BCl.cell c9
              have q10x := BCl.cell c10
              have q11x := BCl.cell c11
              have r0x := BCl.cell d0
              have r1x := BCl.cell d1
              have r2x := BCl.cell d2
              have r3x := BCl.cell d3
              have r4x := BCl.cell d4
              have r5x := BCl.cell d5
              have r6x := BCl.cell d6
              have r7x := BCl.cell d7
              have r8x := BCl.cell d8
              have r9x := BCl.cell d9
              have r10x := BCl.cell d10
              have r11x := BCl.cell d11
              clear c0 c1 c2 c3 c4 c5 c6 c7 c8 c9 c10 c11
              clear d0 d1 d2 d3 d4 d5 d6 d7 d8 d9 d10 d11
              clear hb hx hy hxm hym hf hox hoy hcl
              have gj : (0 : Int) < (kp : Int) + 1 := by omega
              have gj2 : (kp : Int) + 1 < (qs.length : Int) := by omega
              have gj3 : (kp : Int) < (qs.length : Int) := by omega
              go_wp2_with fail
              refine wp_region_below (fun w' => ∃ i : BCl wr, w' = i.w) (by kernel_rfl) (by kernel_rfl) (BCl.start wr) ?_
              repeat (go_big_quiet_step (first
                | (go_at_call 26; rename_i i; have hT := HT.out.below (BXX.out.trans (i.below.mono BXX.out.size)); with_reducible refine (AF.out i.w hT).mono ?_; intro e w' h; exact ⟨h.1, i.next h.2⟩)))
              refine wpQuiet_nil ?_
              intro _ hw'
              obtain ⟨i, rfl⟩ := hw'
              go_wp2_with fail
              go_roundw
              case rel => exact ⟨kp + 1 + 1, by omega, Or.inl (by omega), by go_num, HB.out.trans (i.below.mono HB.out.size)⟩
              case measure => first | (simp [intOf]; omega) | (show qs.length + 1 - (((kp + 1 : Nat) : Int) + 1).toNat < qs.length + 1 - ((kp + 1 : Nat) : Int).toNat; omega)
            · have hge : ¬ (k : Int) < (qs.length : Int) := by omega
              go_wp2
              go_ret
              exact ⟨rfl, B17.out.trans (hb.mono B17.out.size)⟩
end Go.Proofs.YtpdonghdnaehhaaGreatDoor
