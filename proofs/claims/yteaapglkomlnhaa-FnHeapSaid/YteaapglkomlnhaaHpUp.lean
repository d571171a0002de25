/- Slots that change places, in the model: up and down. No condition of its own. -/
import Derived.Test.YteaapglkomlnhaaHpSpec
namespace Go.Proofs.Yteaapglkomlnhaa
open Go.ChangeShapes Go.WideShapes Go.ChangeAt Go.WideMaps Go.WideElems Go.RowKit

theorem RowSl.sw {w : World} {g i k : Nat} {qs : List Sl} (h : RowSl w g qs) (hi : i < qs.length) (hk : k < qs.length) : RowSl (putSl (putSl w g (i * 2) qs[k]!) g (k * 2) qs[i]!) g (swS qs i k) := (h.put hi).put (by simpa using hk)
theorem RowSl.drew {w : World} {g : Nat} {qs : List Sl} (h : RowSl w g qs) : RowSl w.drew g qs := h
theorem RowSl.cells {w : World} {g t : Nat} {qs : List Sl} (h : RowSl w g qs) (ht : t < qs.length) : w.cell? ⟨g, t * 2, none⟩ = some (.int .i64 qs[t]!.k) ∧ w.cell? ⟨g, t * 2 + 1, none⟩ = some (.int .i64 qs[t]!.i) ∧ w.frozen? ⟨g, t * 2, none⟩ = false ∧ w.frozen? ⟨g, t * 2 + 1, none⟩ = false :=
  ⟨(h.2.2 t ht).1, (h.2.2 t ht).2, h.2.1 _ (by omega), h.2.1 _ (by omega)⟩
theorem RowSl.but {w w' : World} {g g' : Nat} {qs : List Sl} (h : RowSl w g qs) (hb : ButB g' w w') (hg : g ≠ g') : RowSl w' g qs := h.same hb.b0.size (hb.block g h.1 hg)
theorem RowSl.alloc {w : World} {g : Nat} {qs : List Sl} (h : RowSl w g qs) (o : Obj) : RowSl (w.alloc o) g qs := h.below ((Below.refl _ _).alloc (Nat.le_refl _) _)
theorem ButB.alloc {g : Nat} {a w : World} (h : ButB g a w) (o : Obj) : ButB g a (w.alloc o) := h.trans (ButB.of_below ((Below.refl _ _).alloc (Nat.le_refl _) _))
set_option maxHeartbeats 1000000 in
set_option maxRecDepth 100000 in
theorem swap_any (g cap i k n : Nat) (qs : List Sl) (w : World) (hn : qs.length = n) (hi : i < n) (hk : k < n) (hne : i ≠ k) (hr : RowSl w g qs) : Calls Try.prog 75 #[.slice (some ⟨g, 0, none⟩) n cap, .int .i64 i, .int .i64 k] w fun e w' => e = .returned (.tuple #[]) ∧ RowSl w' g (swS qs i k) ∧ ButB g w w' := by
  have HR := Lib.hid hr
  have HN := Lib.hid hn
  obtain ⟨x, hx⟩ : ∃ x, qs[i]! = x := ⟨_, rfl⟩
  obtain ⟨y, hy⟩ : ∃ y, qs[k]! = y := ⟨_, rfl⟩
  obtain ⟨c0, c1, f0, f1⟩ := hr.cells (t := i) (by omega)
  obtain ⟨d0, d1, e0, e1⟩ := hr.cells (t := k) (by omega)
  have hgl := hr.1
  rw [hx] at c0 c1
  rw [hy] at d0 d1
  have HX := Lib.hid hx
  have HY := Lib.hid hy
  have s1 : (i : Int) < n := by omega
  have s2 : (k : Int) < n := by omega
  have n1 : i * 2 ≠ k * 2 := by omega
  have n2 : i * 2 ≠ k * 2 + 1 := by omega
  have n3 : i * 2 + 1 ≠ k * 2 := by omega
  have n4 : i * 2 + 1 ≠ k * 2 + 1 := by omega
  clear hr hx hy hn
  go_enter Try.func75, Try.ntmps75
  go_wp2_with fail
  go_end0
  have hs := HR.out.sw (i := i) (k := k) (by have := HN.out; omega) (by have := HN.out; omega)
  rw [HX.out, HY.out] at hs
  exact ⟨rfl, hs.alloc _, (((ButB.refl g w).put (i * 2) y).put (k * 2) x).alloc _⟩
def UpRel (w : World) (g n : Nat) (qs : List Sl) (i : Nat) (v : Value) (wr : World) : Prop :=
  ∃ (j : Nat) (rs : List Sl), v = .int .i64 j ∧ j < n ∧ rs.length = n ∧ upL rs j = upL qs i ∧ RowSl wr g rs ∧ ButB g w wr
set_option maxHeartbeats 1000000 in
set_option maxRecDepth 100000 in
theorem specUp_any (g cap i n : Nat) (qs : List Sl) (w : World) (hn : qs.length = n) (hl : n ≤ 1048576) (hi : i < n) (hr : RowSl w g qs) : Calls Try.prog 63 #[.slice (some ⟨g, 0, none⟩) n cap, .int .i64 i] w fun e w' => e = .returned (.int .i64 (upL qs i).2) ∧ RowSl w' g (upL qs i).1 ∧ ButB g w w' := by
  have HR := Lib.hid hr
  have HN := Lib.hid hn
  clear hr hn
  go_enter Try.func63, Try.ntmps63
  go_wp2_with fail
  go_loopw [1] (fun v wr => UpRel w g n qs i v wr) (fun v _ => (intOf v).toNat)
  case atStart => exact ⟨i, qs, rfl, hi, HN.out, rfl, HR.out, ButB.refl _ _⟩
  case round =>
    obtain ⟨j, rs, rfl, hjn, hrn, hup, hr, hb⟩ := hrel
    have HR2 := Lib.hid hr
    have HB := Lib.hid hb
    have HU := Lib.hid hup
    have HL := Lib.hid hrn
    by_cases h0 : 0 < j
    · obtain ⟨pn, hpn⟩ : ∃ pn, (j - 1) / 2 = pn := ⟨_, rfl⟩
      obtain ⟨q, hq⟩ : ∃ q, rs[j]! = q := ⟨_, rfl⟩
      obtain ⟨p, hp⟩ : ∃ p, rs[pn]! = p := ⟨_, rfl⟩
      obtain ⟨c0, c1, _, _⟩ := hr.cells (t := j) (by omega)
      obtain ⟨d0, d1, _, _⟩ := hr.cells (t := pn) (by omega)
      rw [hq] at c0 c1
      rw [hp] at d0 d1
      have HQ := Lib.hid hq
      have HP : Hid (rs[(j - 1) / 2]! = p) := Lib.hid (by rw [hpn]; exact hp)
      have HPN := Lib.hid hpn
      have hN : Nonempty (BCl wr) := BCl.full wr
      have q0x := BCl.cell c0
      have q1x := BCl.cell c1
      have q2x := BCl.cell d0
      have q3x := BCl.cell d1
      have hpl : pn < n := by omega
      have hpj : pn < j := by omega
      have gk : decide ((j : Int) > 0) = true := decide_eq_true (by omega)
      have gq2 : ((j : Int) - 1).tdiv 2 = (pn : Int) := by rw [Int.tdiv_eq_ediv_of_nonneg (by omega)]; omega
      have gw : IntKind.i64.wrap ((j : Int) - 1) = (j : Int) - 1 := by rw [IntKind.wrap_i64]; omega
      have gw2 : IntKind.i64.wrap (pn : Int) = (pn : Int) := by rw [IntKind.wrap_i64]; omega
      have gp0 : (0 : Int) ≤ (pn : Int) := by omega
      have gp1 : (pn : Int) < n := by omega
      have s0 : (0 : Int) ≤ (j : Int) := by omega
      have s1 : (j : Int) < n := by omega
      clear hq hp hpn hr hb hup hrn c0 c1 d0 d1
      cases r4 : ltS q p with
      | true =>
        have HGO : Hid (upL rs j = upL (swS rs j pn) pn) := Lib.hid (by
          have := upL_go h0 (by rw [HQ.out, HP.out]; exact r4)
          rw [HPN.out] at this
          exact this)
        go_upto_region 1 with fail
        refine wp_region_below (fun w' => ∃ i : BCl wr, w' = i.w) (by kernel_rfl) (by kernel_rfl) (BCl.start wr) ?_
        repeat (go_big_quiet_step (first | (go_at_call 54; rename_i i; with_reducible refine (less_any q p i.w).mono ?_; rw [r4]; intro e w' h; exact ⟨h.1, i.next h.2⟩)))
        refine wpQuiet_nil ?_
        intro _ hw'
        obtain ⟨i, rfl⟩ := hw'
        clear q0x q1x q2x q3x hN
        have HR3 := Lib.hid (HR2.out.below i.below)
        have HB3 := Lib.hid (HB.out.trans (ButB.of_below i.below))
        obtain ⟨w2, hw2⟩ : ∃ w2, i.w = w2 := ⟨_, rfl⟩
        rw [hw2] at HR3 HB3 ⊢
        clear hw2 i
        go_wp2_with fail
        refine (swap_any g cap j pn n rs w2 HL.out hjn hpl (by omega) HR3.out).mono ?_
        rintro e w3 ⟨rfl, hr, hb⟩
        have HR4 := Lib.hid hr
        have HB4 := Lib.hid (HB3.out.trans hb)
        clear hr hb
        go_wp2_with fail
        go_roundw
        case rel => exact ⟨pn, swS rs j pn, rfl, hpl, by rw [swS_length]; exact HL.out, HGO.out.symm.trans HU.out, HR4.out, HB4.out⟩
        case measure => simp [intOf]; omega
      | false =>
        have HST : Hid (upL qs i = (rs, j)) := Lib.hid (by
          rw [← HU.out]
          exact upL_stop (Or.inr (by rw [HQ.out, HP.out]; exact r4)))
        go_upto_region 1 with fail
        refine wp_region_below (fun w' => ∃ i : BCl wr, w' = i.w) (by kernel_rfl) (by kernel_rfl) (BCl.start wr) ?_
        repeat (go_big_quiet_step (first | (go_at_call 54; rename_i i; with_reducible refine (less_any q p i.w).mono ?_; rw [r4]; intro e w' h; exact ⟨h.1, i.next h.2⟩)))
        refine wpQuiet_nil ?_
        intro _ hw'
        obtain ⟨b, rfl⟩ := hw'
        clear q0x q1x q2x q3x hN
        have HR3 := Lib.hid (HR2.out.below b.below)
        have HB3 := Lib.hid (HB.out.trans (ButB.of_below b.below))
        go_wp2_with fail
        go_ret
        rw [HST.out]
        exact ⟨rfl, HR3.out, HB3.out⟩
    · have gk : decide ((j : Int) > 0) = false := decide_eq_false (by omega)
      have HST : Hid (upL qs i = (rs, j)) := Lib.hid (by
        rw [← hup]
        exact upL_stop (Or.inl (by omega)))
      have hN : Nonempty (BCl wr) := BCl.full wr
      clear hr hb hup hrn
      go_upto_region 1 with fail
      refine wp_region_below (fun w' => ∃ i : BCl wr, w' = i.w) (by kernel_rfl) (by kernel_rfl) (BCl.start wr) ?_
      repeat (go_big_quiet_step (first | fail))
      refine wpQuiet_nil ?_
      intro _ hw'
      obtain ⟨b, rfl⟩ := hw'
      have HR3 := Lib.hid (HR2.out.below b.below)
      have HB3 := Lib.hid (HB.out.trans (ButB.of_below b.below))
      go_wp2_with fail
      go_ret
      rw [HST.out]
      exact ⟨rfl, HR3.out, HB3.out⟩
end Go.Proofs.Yteaapglkomlnhaa
