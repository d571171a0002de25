/- HeapPush of the model. No condition of its own. -/
import Derived.Test.YteaapglkomlnhaaHpPush
namespace Go.Proofs.Yteaapglkomlnhaa
open Go.ChangeShapes Go.WideShapes Go.ChangeAt Go.WideMaps Go.WideElems Go.RowKit

theorem hpB_one (x : Sl) : hpB [x] = slotB x := by
  rw [heap_same (by simp)]
  have h1 : ordB [x] = true := ordB_yes fun j hj h0 => by simp at hj; omega
  have h2 : riseB (sortI [x.i]) = true := (rise_sort _).2 (by simp)
  rw [h1, numsB_in, List.map_cons, List.map_nil, h2]
  unfold slotB
  simp only [List.all_cons, List.all_nil, Bool.and_true, Bool.true_and]
  cases inRange x.k 0 2000000000000 <;> cases inRange x.i 1 1000000000000 <;> rfl
/-- What a push leaves; its code. -/
def pusL (qs : List Sl) (x : Sl) : List Sl := if codeS qs = 0 then (if slotB x = false then [] else if 0 ≤ atS qs x.i then qs else if qs.length = 16 then qs else pushL qs x) else []
def pusC (qs : List Sl) (x : Sl) : Int := if codeS qs = 0 then (if slotB x = false then 1 else if 0 ≤ atS qs x.i then 18 else if qs.length = 16 then 7 else 0) else codeS qs
theorem codeS_short {qs : List Sl} (h : codeS qs = 0) : qs.length ≤ 16 ∧ hpB qs = true := by
  rcases codeS_cases qs with ⟨_, h2⟩ | ⟨_, _, h2⟩ | ⟨h0, h1, _⟩
  · rw [h2] at h
    cases h
  · rw [h2] at h
    cases h
  · exact ⟨h1, h0⟩
theorem pusL_length (qs : List Sl) (x : Sl) (hl : qs.length ≤ 1048576) : (pusL qs x).length ≤ 1048576 := by
  unfold pusL
  split
  · rename_i h
    have := (codeS_short h).1
    split
    · exact Nat.zero_le _
    · split
      · exact hl
      · split
        · exact hl
        · rw [pushL_length]
          omega
  · exact Nat.zero_le _
theorem pus_err {qs : List Sl} {x : Sl} (h : codeS qs ≠ 0) : pusL qs x = [] ∧ pusC qs x = codeS qs := ⟨if_neg h, if_neg h⟩
theorem pus_bad {qs : List Sl} {x : Sl} (h : codeS qs = 0) (h2 : slotB x = false) : pusL qs x = [] ∧ pusC qs x = 1 := by
  unfold pusL pusC
  rw [if_pos h, if_pos h, if_pos h2, if_pos h2]
  exact ⟨rfl, rfl⟩
theorem pus_same {qs : List Sl} {x : Sl} {j : Nat} (h : codeS qs = 0) (h2 : slotB x = true) (h3 : atS qs x.i = j) : pusL qs x = qs ∧ pusC qs x = 18 := by
  unfold pusL pusC
  have h5 : (0 : Int) ≤ (j : Int) := by omega
  simp [h, h2, h3, h5]
theorem pus_full {qs : List Sl} {x : Sl} (h : codeS qs = 0) (h2 : slotB x = true) (h3 : atS qs x.i = -1) (h4 : qs.length = 16) : pusL qs x = qs ∧ pusC qs x = 7 := by
  unfold pusL pusC
  simp [h, h2, h3, h4]
theorem pus_ok {qs : List Sl} {x : Sl} (h : codeS qs = 0) (h2 : slotB x = true) (h3 : atS qs x.i = -1) (h4 : qs.length ≠ 16) : pusL qs x = pushL qs x ∧ pusC qs x = 0 := by
  unfold pusL pusC
  simp [h, h2, h3, h4]
set_option maxRecDepth 100000 in
set_option maxHeartbeats 1000000 in
theorem specPush_any (v : Value) (qs : List Sl) (x : Sl) (A B : Nat) (z : Bool) (w : World) (hl : qs.length ≤ 1048576) (hBw : B ≤ w.heap.size) (hv : SlsIn w A B z v qs) : Calls Try.prog 15 #[v, .agg #[.int .i64 x.k, .int .i64 x.i]] w (ResSl w (pusL qs x) (pusC qs x)) := by
  obtain ⟨w0, hw0⟩ : ∃ w0, w.alloc (.cells #[.int .i64 x.k, .int .i64 x.i] 33) = w0 := ⟨_, rfl⟩
  have hb0 : Below w.heap.size w w0 := by
    rw [← hw0]
    exact (Below.refl _ _).alloc (Nat.le_refl _) _
  have hK0 : BlkSl w0 w.heap.size x := by
    rw [← hw0]
    exact BlkSl.new w x _ rfl
  have HV := Lib.hid (hv.below hb0 hBw)
  have HB0 := Lib.hid hb0
  have HK0 := Lib.hid hK0
  have hB0 : B ≤ w0.heap.size := Nat.le_trans hBw hb0.size
  obtain ⟨a, cap, rfl, _⟩ := hv
  rcases codeS_cases qs with ⟨h1, h2⟩ | ⟨h1, hb, h2⟩ | ⟨hb, h1, h2⟩
  · have HC := Lib.hid h2
    have HR := Lib.hid (pus_err (x := x) (by rw [h2]; decide : codeS qs ≠ 0))
    have s1 : (qs.length : Int) > 4096 := by omega
    clear h2 hb0 hK0
    go_enter Try.func15, Try.ntmps15
    go_wp2_with fail
    refine bodyPost_ret (v := .tuple #[.slice (some ⟨w0.heap.size, 0, none⟩) 0 0, .int .i64 2]) (by simp [results, Try.results15, go_sem]) rfl ?_
    rw [HR.out.1, HR.out.2, HC.out]
    exact ⟨_, rfl, nil_in _ _ _ _ _ _ (Nat.zero_le _), HB0.out.alloc HB0.out.size _⟩
  · have HC := Lib.hid h2
    have HR := Lib.hid (pus_err (x := x) (by rw [h2]; decide : codeS qs ≠ 0))
    have HH := Lib.hid hb
    have s1 : ¬ (qs.length : Int) > 4096 := by omega
    clear h2 hb hb0 hK0
    go_enter Try.func15, Try.ntmps15
    go_wp2_with fail
    refine (spec08_any _ qs A B z _ hl hB0 HV.out).mono ?_
    rw [HH.out]
    rintro e w1 ⟨rfl, hb⟩
    have HB1 := Lib.hid (HB0.out.trans (hb.mono HB0.out.size))
    clear hb
    go_wp2_with fail
    refine bodyPost_ret (v := .tuple #[.slice (some ⟨w1.heap.size, 0, none⟩) 0 0, .int .i64 1]) (by simp [results, Try.results15, go_sem]) rfl ?_
    rw [HR.out.1, HR.out.2, HC.out]
    exact ⟨_, rfl, nil_in _ _ _ _ _ _ (Nat.zero_le _), HB1.out.alloc HB1.out.size _⟩
  · have HC := Lib.hid h2
    have HH := Lib.hid hb
    have s1 : ¬ (qs.length : Int) > 4096 := by omega
    clear h2 hb hb0 hK0
    go_enter Try.func15, Try.ntmps15
    go_wp2_with fail
    refine (spec08_any _ qs A B z _ hl hB0 HV.out).mono ?_
    rw [HH.out]
    rintro e w1 ⟨rfl, hb⟩
    have HB1 := Lib.hid (HB0.out.trans (hb.mono HB0.out.size))
    have HV1 := Lib.hid (HV.out.below hb hB0)
    have hk1 := HK0.out.below hb
    have HK1 := Lib.hid hk1
    obtain ⟨c0, c1, _, _⟩ := hk1.cells
    have HS1 : Hid (SlsIn (w1.alloc (.cells #[.int .i64 x.k, .int .i64 x.i] 33)) w1.heap.size (w1.heap.size + 1) false (.slice (some ⟨w1.heap.size, 0, none⟩) 1 1) [x]) := Lib.hid (one_in (BlkSl.new w1 x _ rfl))
    have HB2 := Lib.hid (HB1.out.alloc HB1.out.size (.cells #[.int .i64 x.k, .int .i64 x.i] 33))
    have HV2 := Lib.hid (HV1.out.below ((Below.refl _ _).alloc (Nat.le_refl _) (.cells #[.int .i64 x.k, .int .i64 x.i] 33)) (Nat.le_trans hBw HB1.out.size))
    have HK2 := Lib.hid (hk1.alloc (.cells #[.int .i64 x.k, .int .i64 x.i] 33))
    have hO1 := Lib.hid (hpB_one x)
    clear hb hk1
    go_wp2_with fail
    refine (spec08_any _ [x] w1.heap.size (w1.heap.size + 1) false _ (by simp) (by simp) HS1.out).mono ?_
    rw [hO1.out]
    rintro e w3 ⟨rfl, hb⟩
    have HB3 := Lib.hid (HB2.out.trans (hb.mono HB2.out.size))
    have hB3 : B ≤ w3.heap.size := by have := HB3.out.size; omega
    have HV3 := Lib.hid (HV2.out.below hb (by have := HB1.out.size; simp; omega))
    have hk3 := HK2.out.below hb
    have HK3 := Lib.hid hk3
    obtain ⟨d0, d1, _, _⟩ := hk3.cells
    clear hb hk3 c0 c1
    cases hs : slotB x with
    | false =>
      have HR := Lib.hid (pus_bad HC.out hs)
      clear hs
      go_wp2_with fail
      refine bodyPost_ret (v := .tuple #[.slice (some ⟨w3.heap.size, 0, none⟩) 0 0, .int .i64 1]) (by simp [results, Try.results15, go_sem]) rfl ?_
      rw [HR.out.1, HR.out.2]
      exact ⟨_, rfl, nil_in _ _ _ _ _ _ (Nat.zero_le _), HB3.out.alloc HB3.out.size _⟩
    | true =>
      have HSL := Lib.hid hs
      clear hs
      go_wp2_with fail
      refine (specAt_any _ qs A B z x.i w3 hl HV3.out).mono ?_
      rintro e w4 ⟨rfl, rfl⟩
      have HSRC : Hid (SlsIn (w3.alloc (.cells #[] 33)) A B z (.slice a qs.length cap) qs) := Lib.hid (HV3.out.below ((Below.refl _ _).alloc (Nat.le_refl _) _) hB3)
      rcases atS_range qs x.i with hat | ⟨j, hj, hat⟩
      · have HAT := Lib.hid hat
        rw [hat]
        clear hat
        by_cases h16 : qs.length = 16
        · have HR := Lib.hid (pus_full HC.out HSL.out HAT.out h16)
          have e16 : ((qs.length : Int) == 16) = true := by simp [h16]
          clear h16
          go_wp2_with (at_builtin; refine wpList_append_sl rfl (.tmp 33) (.tmp 34) 25 rfl Try.underlying25 w3.heap.size w3.heap.size 0 0 [] rfl rfl (OwnSl.empty w3 _ (Nat.le_refl _)) A B z _ qs.length cap qs rfl HSRC.out (by simp; omega) (by simp) qs.length (by simp) ?_; intro g1 cp1 w5 hown hgrow; rw [List.nil_append] at hown; have hrow := hown.row; have HB5 := Lib.hid (grow_below (HB3.out.alloc HB3.out.size _) hgrow HB3.out.size (by have := HB3.out.size; simp; omega)); have HROW := Lib.hid hrow; clear hown hgrow hrow)
          refine bodyPost_ret (v := .tuple #[.slice (some ⟨g1, 0, none⟩) qs.length cp1, .int .i64 7]) (by simp [results, Try.results15, go_sem]) rfl ?_
          rw [HR.out.1, HR.out.2]
          obtain ⟨r1, r2, r3, r4⟩ := HROW.out
          exact ⟨_, rfl, r4.in (Nat.le_trans HB3.out.size r1) r4.1 r2 r3, HB5.out⟩
        · have HR := Lib.hid (pus_ok HC.out HSL.out HAT.out h16)
          have e16 : ((qs.length : Int) == 16) = false := by
            rw [beq_eq_false_iff_ne]
            omega
          clear h16
          go_wp2_with fail
          refine (specPush8_any _ qs x A B z w3 (by omega) hB3 HV3.out).mono ?_
          rintro e w5 ⟨u, rfl, hn, hb⟩
          have HB5 := Lib.hid (HB3.out.trans (hb.mono HB3.out.size))
          have HN := Lib.hid (hn.more HB3.out.size)
          clear hn hb
          go_wp2_with fail
          refine bodyPost_ret (v := .tuple #[u, .int .i64 0]) (by simp [results, Try.results15, go_sem]) rfl ?_
          rw [HR.out.1, HR.out.2]
          exact ⟨_, rfl, HN.out.res, HB5.out⟩
      · have HR := Lib.hid (pus_same HC.out HSL.out hat)
        rw [hat]
        have s3 : (0 : Int) ≤ (j : Int) := by omega
        clear hat
        go_wp2_with (at_builtin; refine wpList_append_sl rfl (.tmp 26) (.tmp 27) 25 rfl Try.underlying25 w3.heap.size w3.heap.size 0 0 [] rfl rfl (OwnSl.empty w3 _ (Nat.le_refl _)) A B z _ qs.length cap qs rfl HSRC.out (by simp; omega) (by simp) qs.length (by simp) ?_; intro g1 cp1 w5 hown hgrow; rw [List.nil_append] at hown; have hrow := hown.row; have HB5 := Lib.hid (grow_below (HB3.out.alloc HB3.out.size _) hgrow HB3.out.size (by have := HB3.out.size; simp; omega)); have HROW := Lib.hid hrow; clear hown hgrow hrow)
        refine bodyPost_ret (v := .tuple #[.slice (some ⟨g1, 0, none⟩) qs.length cp1, .int .i64 18]) (by simp [results, Try.results15, go_sem]) rfl ?_
        rw [HR.out.1, HR.out.2]
        obtain ⟨r1, r2, r3, r4⟩ := HROW.out
        exact ⟨_, rfl, r4.in (Nat.le_trans HB3.out.size r1) r4.1 r2 r3, HB5.out⟩
end Go.Proofs.Yteaapglkomlnhaa
