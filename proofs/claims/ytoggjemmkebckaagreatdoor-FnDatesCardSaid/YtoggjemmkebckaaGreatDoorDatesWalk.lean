/- FnDates: the walk of the law over drawn dates. No condition of its own. -/
import Derived.Test.YtoggjemmkebckaaGreatDoorDateLine
import Derived.Test.YtoggjemmkebckaaGreatDoorRound
import Derived.Test.YtoggjemmkebckaaGreatDoorDateSec
import Derived.Test.YtoggjemmkebckaaGreatDoorReadLaw
import Derived.Test.YtoggjemmkebckaaGreatDoorTokLaw
import Derived.Test.YtoggjemmkebckaaGreatDoorSame
import Derived.Deep.DeepCutAuto
namespace Go.Proofs.YtoggjemmkebckaaGreatDoor
open Go.ChangeShapes Go.WideShapes Go.ChangeAt Go.WideMaps Go.WideElems Go.RowKit

def TwoTexts (W : World) (v : Value) (wx : World) : Prop :=
  ∃ (nb : Nat) (f : Nat → ByteArray), v = .slice (some ⟨nb, 0, none⟩) 2 2 ∧ W.heap.size ≤ nb ∧ nb < wx.heap.size ∧ (∀ j, (f j).size ≤ 200) ∧ (∀ j, j < 2 → wx.cell? ⟨nb, j, none⟩ = some (.string (f j))) ∧ Below W.heap.size W wx
theorem two_mk {W w' : World} {s0 s1 : ByteArray} (hb : Below W.heap.size W w') (h0 : s0.size ≤ 200) (h1 : s1.size ≤ 200) : TwoTexts W (.slice (some ⟨w'.heap.size, 0, none⟩) 2 2) (w'.alloc (.cells #[.string s0, .string s1] 9)) := by
  refine ⟨w'.heap.size, fun j => if j = 0 then s0 else s1, rfl, hb.size, by simp, fun j => ?_, fun j hj => ?_, hb.alloc hb.size _⟩
  · dsimp only
    split
    · exact h0
    · exact h1
  · rw [World.cell?_alloc_at _ _ _ _ rfl]
    rcases (show j = 0 ∨ j = 1 by omega) with rfl | rfl <;> rfl
def TwoLoop (W : World) (nb : Nat) (f : Nat → ByteArray) (i : Value) (wr : World) : Prop :=
  ∃ j : Nat, j ≤ 2 ∧ i = .int .i64 j ∧ (∀ j, j < 2 → wr.cell? ⟨nb, j, none⟩ = some (.string (f j))) ∧ nb < wr.heap.size ∧ Below W.heap.size W wr
theorem next_day {n : Int} {a b : Dt} (h : IsDate n a) (k : IsDate (n + 86400) b) : weekN b = (weekN a + 1) % 7 ∧ b.h = a.h ∧ b.s = a.s := by
  have s1 := h.secs
  have s2 := k.secs
  obtain ⟨m, _, _, h1, h2, h3⟩ := h
  obtain ⟨m', _, _, k1, k2, k3⟩ := k
  unfold secsN at s1 s2
  unfold weekN
  have e1 : b.h = a.h := by omega
  have e2 : b.s = a.s := by omega
  have e3 : b.n = a.n := by omega
  refine ⟨?_, e1, e2⟩
  have e4 : dayN b = dayN a + 1 := by omega
  rw [e4]
  omega
def AllDate (n : Int) (a : Dt) (c : Int) : Prop := ((-11644473600 ≤ n ∧ n ≤ 253402300799) ∧ IsDate (n + 11644473600) a ∧ c = 0) ∨ ((n < -11644473600 ∨ 253402300799 < n) ∧ a = ⟨0, 0, 0, 0, 0, 0⟩ ∧ c = 4)
def AllPost (w : World) (n : Int) (e : Ending) (w' : World) : Prop :=
  ∃ y m d h q s c : Int, AllDate n ⟨y, m, d, h, q, s⟩ c ∧ e = .returned (.tuple #[.agg #[.int .i64 y, .int .i64 m, .int .i64 d, .int .i64 h, .int .i64 q, .int .i64 s], .int .i64 c]) ∧ Below w.heap.size w w'
theorem dateAll_uniq {n c c' : Int} {a b : Dt} (h : AllDate n a c) (k : AllDate n b c') : a = b ∧ c = c' := by
  rcases h with ⟨h1, h2, h3⟩ | ⟨h1, h2, h3⟩ <;> rcases k with ⟨k1, k2, k3⟩ | ⟨k1, k2, k3⟩
  · exact ⟨h2.uniq k2, by omega⟩
  · omega
  · omega
  · exact ⟨h2.trans k2.symm, by omega⟩
theorem implDateAll (n : Int) (w : World) : Calls Tryz.prog 9 #[.int .i64 n] w (AllPost w n) := by
  by_cases h : -11644473600 ≤ n ∧ n ≤ 253402300799
  · refine (implDateIn n w h.1 h.2).mono ?_
    rintro e w' ⟨y, m, d, hh, q, s, hd, rfl, hb⟩
    exact ⟨y, m, d, hh, q, s, 0, .inl ⟨h, hd, rfl⟩, rfl, hb⟩
  · have h2 : n < -11644473600 ∨ 253402300799 < n := by omega
    refine (implDateOut n w h2).mono ?_
    rintro e w' ⟨rfl, hb⟩
    exact ⟨0, 0, 0, 0, 0, 0, 4, .inr ⟨h2, rfl, rfl⟩, rfl, hb⟩
theorem specDateAll (n : Int) (w : World) : Calls Tryz.prog 17 #[.int .i64 n] w (AllPost w n) := by
  by_cases h : -11644473600 ≤ n ∧ n ≤ 253402300799
  · refine (specDateIn n w h.1 h.2).mono ?_
    rintro e w' ⟨y, m, d, hh, q, s, hd, rfl, hb⟩
    exact ⟨y, m, d, hh, q, s, 0, .inl ⟨h, hd, rfl⟩, rfl, hb⟩
  · have h2 : n < -11644473600 ∨ 253402300799 < n := by omega
    refine (specDateOut n w h2).mono ?_
    rintro e w' ⟨rfl, hb⟩
    exact ⟨0, 0, 0, 0, 0, 0, 4, .inr ⟨h2, rfl, rfl⟩, rfl, hb⟩
theorem read_back {y m d h q s : Int} (hok : okB ⟨y, m, d, h, q, s⟩ = true) : (textV ⟨y, m, d, h, q, s⟩).size ≤ 200 ∧ rdA (textV ⟨y, m, d, h, q, s⟩) = ⟨y, m, d, h, q, s⟩ ∧ rdC (textV ⟨y, m, d, h, q, s⟩) = 0 := by
  obtain ⟨kk, hk, hk7⟩ := week_nat ⟨y, m, d, h, q, s⟩
  obtain ⟨⟨hy1, hy2⟩, ⟨hm1, hm2⟩, _⟩ := (ok_iff _).1 hok
  simp only at hy1 hy2 hm1 hm2
  have e : textV ⟨y, m, d, h, q, s⟩ = ⟨(txtL (dnam kk).data.toList (mnam m).data.toList y d h q s).toArray⟩ := by rw [textV, if_pos hok, hk]
  obtain ⟨mm, rfl⟩ : ∃ mm : Nat, m = mm := ⟨m.toNat, by omega⟩
  have hsz := (txt_size (y := y) (d := d) (h := h) (n := q) (s := s) (dnam_size hk7) (mnam_size (k := mm) (by omega) (by omega)) (year_size (by omega) hy2)).2
  have hr := read_text hok hk7
  rw [e]
  have hl : (⟨(txtL (dnam kk).data.toList (mnam mm).data.toList y d h q s).toArray⟩ : ByteArray).size ≤ 65536 := by omega
  refine ⟨by omega, ?_, ?_⟩
  · rw [rdA, if_pos hl]
    show (dateR (readL (txtL (dnam kk).data.toList (mnam mm).data.toList y d h q s))).getD zeroD = _
    rw [hr]
    rfl
  · rw [rdC, if_pos hl]
    show (if (dateR (readL (txtL (dnam kk).data.toList (mnam mm).data.toList y d h q s))).isSome then (0 : Int) else 10) = 0
    rw [hr]
    rfl
set_option maxHeartbeats 8000000 in
set_option maxRecDepth 100000 in
theorem walk_FnDates (W : World) (a0 : Option Addr) (len0 cap0 : Nat) (hm0 : len0 ≤ cap0 ∧ cap0 ≤ maxLen ∧ (a0 = none → cap0 = 0)) (hc0 : len0 ≤ 4611686018427387904 → CodeIn W (.slice a0 len0 cap0) len0) (a1 : Option Addr) (len1 cap1 : Nat) (hm1 : len1 ≤ cap1 ∧ cap1 ≤ maxLen ∧ (a1 = none → cap1 = 0)) (hc1 : len1 ≤ 4611686018427387904 → CodeIn W (.slice a1 len1 cap1) len1)
    (hL : laidMetH Tryz.prog Rows.fnDatesRow.laid W) (hSh : W.ShapedOpen Tryz.prog) :
    Calls Tryz.prog 3 #[.slice a0 len0 cap0, .slice a1 len1 cap1] W fun e w' => e = .returned (.bool true) ∧ Below W.heap.size W w' := by
  rw [MakeChecks.laidMetH_plain _ _ _ (by kernel_rfl)] at hL
  have HP := Lib.hid (pow_laid (laidMet.tail (laidMet.tail hL)))
  have HT := Lib.hid (tab_of_laid (laidMet.tail (laidMet.tail (laidMet.tail (laidMet.tail hL)))))
  have HD := Lib.hid (days_laid (laidMet.tail (laidMet.tail (laidMet.tail (laidMet.tail (laidMet.tail hL))))))
  have HMN := Lib.hid (mons_laid (laidMet.tail (laidMet.tail (laidMet.tail (laidMet.tail (laidMet.tail (laidMet.tail hL)))))))
  have HMO := Lib.hid (months_laid (laidMet.tail (laidMet.tail (laidMet.tail (laidMet.tail (laidMet.tail (laidMet.tail hL)))))))
  have HX := Lib.hid (max_is hSh)
  have HN : Hid (NamesAt W) := Lib.hid ⟨HD.out, HMN.out, HP.out⟩
  clear hL hSh
  unfold maxLen at hm0 hm1
  obtain ⟨hm0, hk0, _⟩ := hm0
  obtain ⟨hm1, hk1, hnil⟩ := hm1
  by_cases h0 : 1048576 < len0
  · clear hc0 hc1
    go_enter Tryz.func3, Tryz.ntmps3
    go_wp2
    go_ret
    exact ⟨rfl, Below.refl _ _⟩
  by_cases h1 : 1048576 < len1
  · clear hc0 hc1
    go_enter Tryz.func3, Tryz.ntmps3
    go_wp2
    go_ret
    exact ⟨rfl, Below.refl _ _⟩
  have C0 := Lib.hid (hc0 (by omega))
  have C1 := Lib.hid (hc1 (by omega))
  clear hc0 hc1
  go_enter Tryz.func3, Tryz.ntmps3
  go_wp2_with fail
  refine (dateDrawn_any _ _ _ C0.out).mono ?_
  rintro e w1 ⟨y, m, d, h, q, s, hok, rfl, hb⟩
  have HS : Hid (secV ⟨y, m, d, h, q, s⟩ = secsN ⟨y, m, d, h, q, s⟩) := Lib.hid (if_pos hok)
  have HC : Hid (okC ⟨y, m, d, h, q, s⟩ = 0) := Lib.hid (if_pos hok)
  have HOK := Lib.hid hok
  have HDT := Lib.hid (IsDate.of_ok hok)
  obtain ⟨hn1, hn2⟩ := secsN_range hok
  obtain ⟨n, hn⟩ : ∃ n, secsN ⟨y, m, d, h, q, s⟩ = n := ⟨_, rfl⟩
  rw [hn] at HS HDT hn1 hn2
  obtain ⟨T0, hT0⟩ : ∃ T0, textV ⟨y, m, d, h, q, s⟩ = T0 := ⟨_, rfl⟩
  have HRD := Lib.hid (read_back hok)
  rw [hT0] at HRD
  have HT0 := Lib.hid hT0
  have B1 := Lib.hid (hb.alloc hb.size (.cells #[.int .i64 y, .int .i64 m, .int .i64 d, .int .i64 h, .int .i64 q, .int .i64 s] 24))
  have D1 := Lib.hid (Blk.new w1 y m d h q s)
  have hw1 := hb.size
  clear hb hok hn hT0
  go_wp2_with fail
  refine (implSecs y m d h q s _).mono ?_
  rintro e w2 ⟨rfl, hb⟩
  rw [HS.out, HC.out]
  have B2 := Lib.hid (B1.out.trans (hb.mono B1.out.size))
  have D2 := Lib.hid (blk_stays D1.out hb)
  obtain ⟨c0, c1, c2, c3, c4, c5⟩ := Blk.at D2.out
  clear hb B1 D1
  go_wp2_with fail
  refine (specSecs y m d h q s _).mono ?_
  rintro e w3 ⟨rfl, hb⟩
  rw [HS.out, HC.out]
  have B3 := Lib.hid (B2.out.trans (hb.mono B2.out.size))
  have D3 := Lib.hid (blk_stays D2.out hb)
  clear hb B2 D2 c0 c1 c2 c3 c4 c5
  obtain ⟨c0, c1, c2, c3, c4, c5⟩ := Blk.at D3.out
  go_wp2_with fail
  refine (implDateIn n _ hn1 hn2).mono ?_
  rintro e w4 ⟨y', m', d', h', q', s', hdate, rfl, hb⟩
  have he := hdate.uniq HDT.out
  simp only [Dt.mk.injEq] at he
  obtain ⟨rfl, rfl, rfl, rfl, rfl, rfl⟩ := he
  have hb4 := B3.out.trans (hb.mono B3.out.size)
  have B4 := Lib.hid (hb4.alloc hb4.size (.cells #[.int .i64 y', .int .i64 m', .int .i64 d', .int .i64 h', .int .i64 q', .int .i64 s'] 24))
  have D4 := Lib.hid ((blk_stays D3.out hb).alloc (.cells #[.int .i64 y', .int .i64 m', .int .i64 d', .int .i64 h', .int .i64 q', .int .i64 s'] 24))
  have K4 := Lib.hid (Blk.new w4 y' m' d' h' q' s')
  clear hb hb4 B3 D3 c0 c1 c2 c3 c4 c5 hdate
  obtain ⟨c0, c1, c2, c3, c4, c5⟩ := Blk.at D4.out
  go_wp2_with fail
  refine (implText y' m' d' h' q' s' _ (HN.out.below B4.out)).mono ?_
  rintro e w5 ⟨rfl, hb⟩
  rw [HT0.out, HC.out]
  have B5 := Lib.hid (B4.out.trans (hb.mono B4.out.size))
  have D5 := Lib.hid (blk_stays D4.out hb)
  have K5 := Lib.hid (blk_stays K4.out hb)
  clear hb B4 D4 K4 c0 c1 c2 c3 c4 c5
  obtain ⟨c0, c1, c2, c3, c4, c5⟩ := Blk.at D5.out
  go_wp2_with fail
  refine (specText y' m' d' h' q' s' _).mono ?_
  rintro e w6 ⟨rfl, hb⟩
  rw [HT0.out, HC.out]
  have B6 := Lib.hid (B5.out.trans (hb.mono B5.out.size))
  have D6 := Lib.hid (blk_stays D5.out hb)
  have K6 := Lib.hid (blk_stays K5.out hb)
  clear hb B5 D5 K5 c0 c1 c2 c3 c4 c5
  obtain ⟨c0, c1, c2, c3, c4, c5⟩ := Blk.at D6.out
  go_wp2_with fail
  refine (implRead T0 _ (by have := HRD.out.1; unfold maxLen; omega) (HT.out.below B6.out) (HMO.out.below B6.out) (HX.out.below B6.out)).mono ?_
  rintro e w7 ⟨rfl, hb⟩
  rw [HRD.out.2.1, HRD.out.2.2]
  have hb7 := B6.out.trans (hb.mono B6.out.size)
  have B7 := Lib.hid (hb7.alloc hb7.size (.cells #[.int .i64 y', .int .i64 m', .int .i64 d', .int .i64 h', .int .i64 q', .int .i64 s'] 24))
  have D7 := Lib.hid ((blk_stays D6.out hb).alloc (.cells #[.int .i64 y', .int .i64 m', .int .i64 d', .int .i64 h', .int .i64 q', .int .i64 s'] 24))
  have K7 := Lib.hid ((blk_stays K6.out hb).alloc (.cells #[.int .i64 y', .int .i64 m', .int .i64 d', .int .i64 h', .int .i64 q', .int .i64 s'] 24))
  have R7 := Lib.hid (Blk.new w7 y' m' d' h' q' s')
  clear hb hb7 B6 D6 K6 c0 c1 c2 c3 c4 c5
  obtain ⟨c0, c1, c2, c3, c4, c5⟩ := Blk.at D7.out
  go_wp2_with fail
  refine (implWeek y' m' d' h' q' s' _).mono ?_
  rintro e w8 ⟨rfl, hb⟩
  rw [HC.out]
  have B8 := Lib.hid (B7.out.trans (hb.mono B7.out.size))
  have D8 := Lib.hid (blk_stays D7.out hb)
  have K8 := Lib.hid (blk_stays K7.out hb)
  have R8 := Lib.hid (blk_stays R7.out hb)
  clear hb B7 D7 K7 R7 c0 c1 c2 c3 c4 c5
  obtain ⟨c0, c1, c2, c3, c4, c5⟩ := Blk.at D8.out
  go_wp2_with fail
  refine (specWeek y' m' d' h' q' s' _).mono ?_
  rintro e w9 ⟨rfl, hb⟩
  rw [HC.out]
  have B9 := Lib.hid (B8.out.trans (hb.mono B8.out.size))
  have D9 := Lib.hid (blk_stays D8.out hb)
  have K9 := Lib.hid (blk_stays K8.out hb)
  have R9 := Lib.hid (blk_stays R8.out hb)
  clear hb B8 D8 K8 R8 c0 c1 c2 c3 c4 c5
  obtain ⟨c0, c1, c2, c3, c4, c5⟩ := Blk.at D9.out
  obtain ⟨k0, k1, k2, k3, k4, k5⟩ := Blk.at K9.out
  obtain ⟨r0, r1, r2, r3, r4, r5⟩ := Blk.at R9.out
  have n1 : (weekV ⟨y', m', d', h', q', s'⟩ != weekV ⟨y', m', d', h', q', s'⟩) = false := by simp
  have n2 : (n != n) = false := by simp
  have n3 : (T0.toList != T0.toList) = false := by simp
  go_wp2_with fail
  refine (implOK y' m' d' h' q' s' _).mono ?_
  rintro e w10 ⟨rfl, hb⟩
  rw [HOK.out]
  have B10 := Lib.hid (B9.out.trans (hb.mono B9.out.size))
  clear hb B9 D9 K9 R9 c0 c1 c2 c3 c4 c5 k0 k1 k2 k3 k4 k5 r0 r1 r2 r3 r4 r5 n1 n2 n3 HRD HT0 HS HC HDT HOK
  go_wp2_with fail
  refine (at_any _ len1 0 200000 _ (by omega) (by omega) (by omega) (C1.out.below B10.out)).mono ?_
  rintro e w11 ⟨r, rfl, hr, qq, rfl⟩
  have B11 := Lib.hid (below_drewN B10.out qq)
  generalize w10.drewN qq = w11 at *
  clear B10
  go_wp2_with fail
  refine (implDateAll _ _).mono ?_
  rintro e w12 ⟨y2, m2, d2, h2, q2, s2, c, hx, rfl, hb⟩
  have HX2 := Lib.hid hx
  have hb12 := B11.out.trans (hb.mono B11.out.size)
  have B12 := Lib.hid (hb12.alloc hb12.size (.cells #[.int .i64 y2, .int .i64 m2, .int .i64 d2, .int .i64 h2, .int .i64 q2, .int .i64 s2] 24))
  have X12 := Lib.hid (Blk.new w12 y2 m2 d2 h2 q2 s2)
  clear hb hb12 B11 hx
  go_wp2_with fail
  refine (specDateAll _ _).mono ?_
  rintro e w13 ⟨y3, m3, d3, h3, q3, s3, c3, hx, rfl, hb⟩
  have he := dateAll_uniq hx HX2.out
  simp only [Dt.mk.injEq] at he
  obtain ⟨⟨rfl, rfl, rfl, rfl, rfl, rfl⟩, rfl⟩ := he
  have hb13 := B12.out.trans (hb.mono B12.out.size)
  have B13 := Lib.hid (hb13.alloc hb13.size (.cells #[.int .i64 y3, .int .i64 m3, .int .i64 d3, .int .i64 h3, .int .i64 q3, .int .i64 s3] 24))
  have X13 := Lib.hid ((blk_stays X12.out hb).alloc (.cells #[.int .i64 y3, .int .i64 m3, .int .i64 d3, .int .i64 h3, .int .i64 q3, .int .i64 s3] 24))
  have Y13 := Lib.hid (Blk.new w13 y3 m3 d3 h3 q3 s3)
  clear hb hb13 B12 X12 hx
  obtain ⟨c0, c1, c2, c3', c4, c5⟩ := Blk.at X13.out
  obtain ⟨k0, k1, k2, k3, k4, k5⟩ := Blk.at Y13.out
  have n1 : (c3 != c3) = false := by simp
  go_upto_if 169 with fail
  go_cut [27] (fun _ wx => Below W.heap.size W wx)
  case first =>
    as_aux_lemma =>
      rcases HX2.out with ⟨⟨hx1, hx2⟩, hxd, rfl⟩ | ⟨_, _, rfl⟩
      · have hxok := hxd.ok (by omega)
        have hsx := hxd.secs
        have HSX : Hid (secV ⟨y3, m3, d3, h3, q3, s3⟩ = n + ((r : Int) - 100000)) := Lib.hid (by rw [secV, if_pos hxok, hsx]; omega)
        have HCX : Hid (okC ⟨y3, m3, d3, h3, q3, s3⟩ = 0) := Lib.hid (if_pos hxok)
        obtain ⟨vx, hvx⟩ : ∃ vx, weekN ⟨y3, m3, d3, h3, q3, s3⟩ = vx := ⟨_, rfl⟩
        have HVX : Hid (weekV ⟨y3, m3, d3, h3, q3, s3⟩ = vx) := Lib.hid (by rw [weekV, if_pos hxok, hvx])
        have hv0 : 0 ≤ vx := by rw [← hvx]; unfold weekN; omega
        have hv6 : vx ≤ 6 := by rw [← hvx]; unfold weekN; omega
        have HND : Hid (∀ a c, AllDate (n + ((r : Int) - 100000) + 86400) a c → (c = 0 ∧ okB a = true ∧ weekN a = (vx + 1) % 7 ∧ a.h = h3 ∧ a.s = s3) ∨ (c = 4 ∧ a = ⟨0, 0, 0, 0, 0, 0⟩)) := Lib.hid fun a c ha => by
          rcases ha with ⟨hr2, had, hc⟩ | ⟨_, ha, hc⟩
          · have had2 : IsDate (n + ((r : Int) - 100000) + 11644473600 + 86400) a := by
              have e : n + ((r : Int) - 100000) + 86400 + 11644473600 = n + ((r : Int) - 100000) + 11644473600 + 86400 := by omega
              rw [← e]
              exact had
            obtain ⟨g1, g2, g3⟩ := next_day hxd had2
            exact .inl ⟨hc, had.ok (by omega), by rw [g1, hvx], g2, g3⟩
          · exact .inr ⟨hc, ha⟩
        have n2 : (n + ((r : Int) - 100000) != n + ((r : Int) - 100000)) = false := by simp
        clear hxok hsx hvx hxd HX2
        go_wp2_with fail
        refine (implSecs y3 m3 d3 h3 q3 s3 _).mono ?_
        rintro e w14 ⟨rfl, hb⟩
        rw [HSX.out, HCX.out]
        have B14 := Lib.hid (B13.out.trans (hb.mono B13.out.size))
        have X14 := Lib.hid (blk_stays X13.out hb)
        clear hb B13 X13 Y13 c0 c1 c2 c3' c4 c5 k0 k1 k2 k3 k4 k5
        obtain ⟨c0, c1, c2, c3', c4, c5⟩ := Blk.at X14.out
        go_wp2_with fail
        refine (implWeek y3 m3 d3 h3 q3 s3 _).mono ?_
        rintro e w15 ⟨rfl, hb⟩
        rw [HVX.out, HCX.out]
        have B15 := Lib.hid (B14.out.trans (hb.mono B14.out.size))
        have X15 := Lib.hid (blk_stays X14.out hb)
        clear hb B14 X14 c0 c1 c2 c3' c4 c5
        go_wp2_with fail
        refine (implDateAll _ _).mono ?_
        rintro e w16 ⟨y4, m4, d4, h4, q4, s4, c4', hx, rfl, hb⟩
        have hb16 := B15.out.trans (hb.mono B15.out.size)
        have B16 := Lib.hid (hb16.alloc hb16.size (.cells #[.int .i64 y4, .int .i64 m4, .int .i64 d4, .int .i64 h4, .int .i64 q4, .int .i64 s4] 24))
        have X16 := Lib.hid ((blk_stays X15.out hb).alloc (.cells #[.int .i64 y4, .int .i64 m4, .int .i64 d4, .int .i64 h4, .int .i64 q4, .int .i64 s4] 24))
        have Z16 := Lib.hid (Blk.new w16 y4 m4 d4 h4 q4 s4)
        have hcase := HND.out _ _ hx
        clear hb hb16 B15 X15 hx HND
        obtain ⟨k0, k1, k2, k3, k4, k5⟩ := Blk.at Z16.out
        go_wp2_with fail
        refine (implWeek y4 m4 d4 h4 q4 s4 _).mono ?_
        rintro e w17 ⟨rfl, hb⟩
        have B17 := Lib.hid (B16.out.trans (hb.mono B16.out.size))
        have X17 := Lib.hid (blk_stays X16.out hb)
        have Z17 := Lib.hid (blk_stays Z16.out hb)
        clear hb B16 X16 Z16 k0 k1 k2 k3 k4 k5
        obtain ⟨c0, c1, c2, c3', c4, c5⟩ := Blk.at X17.out
        obtain ⟨k0, k1, k2, k3, k4, k5⟩ := Blk.at Z17.out
        rcases hcase with ⟨rfl, hok4, hwk, hh4, hs4⟩ | ⟨rfl, hz⟩
        · have hh5 : h4 = h3 := hh4
          have hs5 : s4 = s3 := hs4
          clear hh4 hs4
          subst hh5 hs5
          have HW4 : Hid (weekV ⟨y4, m4, d4, h4, q4, s4⟩ = (vx + 1) % 7) := Lib.hid (by rw [weekV, if_pos hok4, hwk])
          have HC4 : Hid (okC ⟨y4, m4, d4, h4, q4, s4⟩ = 0) := Lib.hid (if_pos hok4)
          have n3 : ((vx + 1) % 7 != (vx + 1) % 7) = false := by simp
          have n4 : (h4 != h4) = false := by simp
          have n5 : (s4 != s4) = false := by simp
          clear hok4 hwk
          rw [HW4.out, HC4.out]
          go_wp2_with fail
          go_meet
          exact B17.out
        · simp only [Dt.mk.injEq] at hz
          obtain ⟨rfl, rfl, rfl, rfl, rfl, rfl⟩ := hz
          have HW4 : Hid (weekV ⟨0, 0, 0, 0, 0, 0⟩ = 0) := Lib.hid (by decide)
          have HC4 : Hid (okC ⟨0, 0, 0, 0, 0, 0⟩ = 1) := Lib.hid (by decide)
          rw [HW4.out, HC4.out]
          go_wp2_with fail
          go_meet
          exact B17.out
      · go_wp2_with fail
        go_meet
        exact B13.out
  case rest =>
    have B20 := Lib.hid hcut
    clear hcut B13 X13 Y13 c0 c1 c2 c3' c4 c5 k0 k1 k2 k3 k4 k5 HX2
    obtain ⟨kk, hmin, hkk1, hkk2⟩ : ∃ kk : Nat, min (len1 : Int) 60 = kk ∧ kk ≤ len1 ∧ kk ≤ 60 := ⟨min len1 60, by omega, by omega, by omega⟩
    obtain ⟨T, hTs, hcv⟩ := part_string (k := kk) C1.out hkk1
    have h3' : (0 : Int) ≤ kk := by omega
    have h4' : (kk : Int) ≤ cap1 := by omega
    have h5' : T.size ≤ 60 := by omega
    go_upto_region 26 with fail
    go_cut [35] (fun v wx => TwoTexts W v wx)
    case first =>
      as_aux_lemma =>
        cases a1 with
        | none =>
          obtain rfl : cap1 = 0 := hnil rfl
          obtain rfl : len1 = 0 := by omega
          obtain rfl : kk = 0 := by omega
          have hmin0 : min (0 : Int) 60 = 0 := by decide
          go_region_held3 (fun w' => Below W.heap.size W w' ∧ (convert 22 9 (.slice none 0 0)).run Tryz.prog w' = .ok (.string T) w') (first | (assumption) | exact B20.out.drew | exact hcv _ _ B20.out.drew | exact ⟨B20.out.drew, hcv _ _ B20.out.drew⟩ | exact ⟨by assumption, by assumption⟩ | exact ⟨Below.alloc (by assumption) (Below.size (B := W.heap.size) (by assumption)) _, hcv _ _ (Below.alloc (by assumption) (Below.size (B := W.heap.size) (by assumption)) _)⟩)
            (first | (go_at_call 18; refine (dateLineDrawn_any _ _ _ (by first | exact CodeIn.below C1.out (by assumption) | exact CodeIn.below C1.out B20.out.drew)).mono ?_; rintro e w' ⟨s, rfl, hs, hb⟩; have hS : Below W.heap.size W w' := Below.trans (by first | assumption | exact B20.out.drew) (Below.mono hb (Below.size (B := W.heap.size) (by first | assumption | exact B20.out.drew))); have hC := hcv w' 0 hS; clear hb))
          all_goals
            go_wp2_with fail
            go_meet
            exact two_mk (by assumption) (by omega) (by omega)
        | some ad =>
          go_region_held3 (fun w' => Below W.heap.size W w' ∧ (convert 22 9 (.slice (some ad) kk cap1)).run Tryz.prog w' = .ok (.string T) w') (first | (assumption) | exact B20.out.drew | exact hcv _ _ B20.out.drew | exact ⟨B20.out.drew, hcv _ _ B20.out.drew⟩ | exact ⟨by assumption, by assumption⟩ | exact ⟨Below.alloc (by assumption) (Below.size (B := W.heap.size) (by assumption)) _, hcv _ _ (Below.alloc (by assumption) (Below.size (B := W.heap.size) (by assumption)) _)⟩)
            (first | (go_at_call 18; refine (dateLineDrawn_any _ _ _ (by first | exact CodeIn.below C1.out (by assumption) | exact CodeIn.below C1.out B20.out.drew)).mono ?_; rintro e w' ⟨s, rfl, hs, hb⟩; have hS : Below W.heap.size W w' := Below.trans (by first | assumption | exact B20.out.drew) (Below.mono hb (Below.size (B := W.heap.size) (by first | assumption | exact B20.out.drew))); have hC := hcv w' cap1 hS; clear hb))
          all_goals
            go_wp2_with fail
            go_meet
            exact two_mk (by assumption) (by omega) (by omega)
    case rest =>
      obtain ⟨nb, f, rfl, hnb, hnl, hf, hcells, hb⟩ := hcut
      have HF := Lib.hid hf
      have HCL := Lib.hid hcells
      have HB := Lib.hid hb
      clear hcv hmin h3' h4' h5' hTs hf hcells hb
      go_wp2
      go_loopw [36] (fun i wr => TwoLoop W nb f i wr) (fun i _ => 2 - (intOf i).toNat)
      case atStart => exact ⟨0, by omega, rfl, HCL.out, hnl, HB.out⟩
      case round =>
        as_aux_lemma =>
          obtain ⟨j, hj, rfl, hcells, hnl2, hb⟩ := hrel
          clear HCL HB
          have HCL := Lib.hid hcells
          have HB := Lib.hid hb
          clear hcells hb
          by_cases hlt : j < 2
          · have hcell := HCL.out j hlt
            obtain ⟨t, ht⟩ : ∃ t, t = f j := ⟨_, rfl⟩
            rw [← ht] at hcell
            have hz : t.size ≤ 200 := by rw [ht]; exact HF.out j
            clear ht
            have hm : Hid (t.size ≤ maxLen) := by show t.size ≤ maxLen; unfold maxLen; omega
            have HTC : Hid (tokC t = 0) := Lib.hid (if_pos (by omega))
            have hlen := tokV_len t
            have n1 : (rdC t != rdC t) = false := by simp
            have hji : (j : Int) < 2 := by omega
            go_wp2_with fail
            refine (implRead t _ hm.out (HT.out.below HB.out) (HMO.out.below HB.out) (HX.out.below HB.out)).mono ?_
            rintro e v1 ⟨rfl, hb⟩
            have hb1 := HB.out.trans (hb.mono HB.out.size)
            have E1 := Lib.hid (hb1.alloc hb1.size (.cells #[.int .i64 (rdA t).y, .int .i64 (rdA t).m, .int .i64 (rdA t).d, .int .i64 (rdA t).h, .int .i64 (rdA t).n, .int .i64 (rdA t).s] 24))
            have P1 := Lib.hid (Blk.new v1 (rdA t).y (rdA t).m (rdA t).d (rdA t).h (rdA t).n (rdA t).s)
            have hk1 := Lib.hid (hb.alloc hb.size (.cells #[.int .i64 (rdA t).y, .int .i64 (rdA t).m, .int .i64 (rdA t).d, .int .i64 (rdA t).h, .int .i64 (rdA t).n, .int .i64 (rdA t).s] 24))
            have hcell1 := cell_kept hk1.out hcell
            clear hb hb1
            go_wp2_with fail
            refine (specReadD t _).mono ?_
            rintro e v2 ⟨rfl, hb⟩
            have hb2 := E1.out.trans (hb.mono E1.out.size)
            have E2 := Lib.hid (hb2.alloc hb2.size (.cells #[.int .i64 (rdA t).y, .int .i64 (rdA t).m, .int .i64 (rdA t).d, .int .i64 (rdA t).h, .int .i64 (rdA t).n, .int .i64 (rdA t).s] 24))
            have P2 := Lib.hid ((blk_stays P1.out hb).alloc (.cells #[.int .i64 (rdA t).y, .int .i64 (rdA t).m, .int .i64 (rdA t).d, .int .i64 (rdA t).h, .int .i64 (rdA t).n, .int .i64 (rdA t).s] 24))
            have Q2 := Lib.hid (Blk.new v2 (rdA t).y (rdA t).m (rdA t).d (rdA t).h (rdA t).n (rdA t).s)
            have hk2 := Lib.hid (hk1.out.trans ((hb.alloc hb.size (.cells #[.int .i64 (rdA t).y, .int .i64 (rdA t).m, .int .i64 (rdA t).d, .int .i64 (rdA t).h, .int .i64 (rdA t).n, .int .i64 (rdA t).s] 24)).mono hk1.out.size))
            have hcell2 := cell_kept hk2.out hcell
            clear hb hb2 P1 E1 hk1 hcell1
            go_wp2_with fail
            refine (implTokens t _ hm.out).mono ?_
            rintro e v3 ⟨r1, rfl, hr, hb⟩
            rw [HTC.out]
            have E3 := Lib.hid (E2.out.trans (hb.mono E2.out.size))
            have P3 := Lib.hid (blk_stays P2.out hb)
            have Q3 := Lib.hid (blk_stays Q2.out hb)
            have hk3 := Lib.hid (hk2.out.trans (hb.mono hk2.out.size))
            have hcell3 := cell_kept hk3.out hcell
            have R3 := Lib.hid hr
            clear hb hr E2 P2 Q2 hk2 hcell2
            go_wp2_with fail
            refine (specTokens t _).mono ?_
            rintro e v4 ⟨r2, rfl, hr, hb⟩
            rw [HTC.out]
            have E4 := Lib.hid (E3.out.trans (hb.mono E3.out.size))
            have P4 := Lib.hid (blk_stays P3.out hb)
            have Q4 := Lib.hid (blk_stays Q3.out hb)
            have hk4 := Lib.hid (hk3.out.trans (hb.mono hk3.out.size))
            have R4 := Lib.hid (R3.out.below hb)
            have S4 := Lib.hid hr
            clear hb hr E3 P3 Q3 hk3 hcell3 hcell
            obtain ⟨c0, c1, c2, c3', c4, c5⟩ := Blk.at P4.out
            obtain ⟨k0, k1, k2, k3, k4, k5⟩ := Blk.at Q4.out
            go_wp2_with fail
            refine (sameTexts_any r1 r2 (tokV t) _ _ _ (by omega) R4.out S4.out).mono ?_
            rintro e v5 ⟨rfl, hb⟩
            have E5 := Lib.hid (E4.out.trans (hb.mono E4.out.size))
            have hk5 := Lib.hid (hk4.out.trans (hb.mono hk4.out.size))
            clear hb c0 c1 c2 c3' c4 c5 k0 k1 k2 k3 k4 k5
            go_wp2_with fail
            go_roundw
            case rel => exact ⟨j + 1, by omega, by go_num, fun i hi => cell_kept hk5.out (HCL.out i hi), Nat.lt_of_lt_of_le hnl2 hk5.out.size, E5.out⟩
            case measure => simp [intOf]; omega
          · go_wp2
            go_ret
            exact ⟨rfl, HB.out⟩
end Go.Proofs.YtoggjemmkebckaaGreatDoor
