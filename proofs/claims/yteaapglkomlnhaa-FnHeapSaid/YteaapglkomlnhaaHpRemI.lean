/- HeapRemove of the program. No condition of its own. -/
import Derived.Test.YteaapglkomlnhaaHpRem
namespace Go.Proofs.Yteaapglkomlnhaa
open Go.ChangeShapes Go.WideShapes Go.ChangeAt Go.WideMaps Go.WideElems Go.RowKit

theorem own_alloc {w : World} {base g cap : Nat} {qs : List Sl} (h : OwnSl w base g cap qs) (o : Obj) : OwnSl (w.alloc o) base g cap qs := h.block (Below.heap_alloc w o g h.row.2.2.2.1)
theorem res_err (w w' : World) (c : Int) (hb : Below w.heap.size w w') (rs : List Sl) (hr : rs = []) : ResSl w rs c (.returned (.tuple #[.slice none 0 0, .int .i64 c])) w' := by
  subst hr
  exact ⟨_, rfl, nil_in _ _ _ _ _ _ (Nat.zero_le _), hb⟩
set_option maxRecDepth 100000 in
set_option maxHeartbeats 1000000 in
theorem implRemove_any (v : Value) (qs : List Sl) (A B : Nat) (z : Bool) (id : Int) (w : World) (hl : qs.length ≤ 1048576) (hBw : B ≤ w.heap.size) (hv : SlsIn w A B z v qs) : Calls Try.prog 24 #[v, .int .i64 id] w (ResSl w (remL qs id) (remC qs id)) := by
  have HV := Lib.hid hv
  obtain ⟨a, cap, rfl, _⟩ := hv
  by_cases hc : codeS qs = 0
  · have HC := Lib.hid hc
    have hl16 : qs.length ≤ 16 := by
      rcases codeS_cases qs with ⟨_, h2⟩ | ⟨_, _, h2⟩ | ⟨_, h1, _⟩
      · rw [h2] at hc
        cases hc
      · rw [h2] at hc
        cases hc
      · exact h1
    clear hc
    rcases atS_range qs id with hat | ⟨j, hj, hat⟩
    · have HR := Lib.hid (rem_none HC.out hat)
      have HAT := Lib.hid hat
      clear hat
      go_enter Try.func24, Try.ntmps24
      go_wp2_with fail
      refine (cloneHeap_any _ qs A B z _ hl hBw HV.out).mono ?_
      rintro e w1 ⟨hb, ⟨hne, _⟩ | ⟨_, g, rfl, ho⟩⟩
      · exact absurd HC.out hne
      have HB1 := Lib.hid hb
      have HO1 := Lib.hid (own_alloc ho (.cells #[.slice (some ⟨g, 0, none⟩) qs.length qs.length] 57))
      have HB2 := Lib.hid (HB1.out.alloc HB1.out.size (.cells #[.slice (some ⟨g, 0, none⟩) qs.length qs.length] 57))
      have HP2 := Lib.hid (BoxA.new w1 57 (.slice (some ⟨g, 0, none⟩) qs.length qs.length))
      have e0 : ((0 : Int) != 0) = false := by decide
      have s2 : (-1 : Int) < 0 := by omega
      clear hb ho
      go_wp2_with fail
      have HS : Hid (SlsIn (w1.alloc (.cells #[.slice (some ⟨g, 0, none⟩) qs.length qs.length] 57)) g (w1.heap.size + 1) true (.slice (some ⟨g, 0, none⟩) qs.length qs.length) qs) := Lib.hid (by
        obtain ⟨r1, r2, r3, r4⟩ := HO1.out.row
        exact r4.in (Nat.le_refl _) (by have := r4.1; rw [World.size_alloc] at this; exact this) r2 r3)
      refine (findSlot_any _ qs g (w1.heap.size + 1) true id _ hl (by simp) HS.out).mono ?_
      rw [HAT.out]
      rintro e w3 ⟨rfl, hb⟩
      have HP3 := Lib.hid (HP2.out.below hb)
      have HO3 := Lib.hid (HO1.out.block (hb.block g HO1.out.row.2.2.2.1))
      have HB3 := Lib.hid (HB2.out.trans (hb.mono HB2.out.size))
      obtain ⟨_, b1, b2⟩ := HP3.out
      clear hb
      go_wp2_with fail
      refine bodyPost_ret (v := .tuple #[.slice (some ⟨g, 0, none⟩) qs.length qs.length, .int .i64 5]) (by simp [results, Try.results24, go_sem]) rfl ?_
      rw [HR.out.1, HR.out.2]
      obtain ⟨r1, r2, r3, r4⟩ := HO3.out.row
      exact ⟨_, rfl, r4.in r1 r4.1 r2 r3, HB3.out⟩
    · have HR := Lib.hid (rem_at HC.out hat)
      have HAT := Lib.hid hat
      obtain ⟨m, hm⟩ : ∃ m, qs.length = m + 1 := ⟨qs.length - 1, by omega⟩
      have HM := Lib.hid hm
      have s2 : ¬ (j : Int) < 0 := by omega
      have hjm : j ≤ m := by omega
      have hml : m + 1 ≤ 1048576 := by omega
      have HLT : Hid ((takeL qs j).length = m) := Lib.hid (by rw [takeL_length]; omega)
      clear hat hm
      go_enter Try.func24, Try.ntmps24
      go_wp2_with fail
      refine (cloneHeap_any _ qs A B z _ hl hBw HV.out).mono ?_
      rintro e w1 ⟨hb, ⟨hne, _⟩ | ⟨_, g, rfl, ho⟩⟩
      · exact absurd HC.out hne
      have hm := HM.out
      rw [hm] at ho ⊢
      have HB1 := Lib.hid hb
      have HO1 := Lib.hid (own_alloc ho (.cells #[.slice (some ⟨g, 0, none⟩) (m + 1) (m + 1)] 57))
      have HB2 := Lib.hid (HB1.out.alloc HB1.out.size (.cells #[.slice (some ⟨g, 0, none⟩) (m + 1) (m + 1)] 57))
      have HP2 := Lib.hid (BoxA.new w1 57 (.slice (some ⟨g, 0, none⟩) (m + 1) (m + 1)))
      have hglt := ho.row.2.2.2.1
      have e0 : ((0 : Int) != 0) = false := by decide
      clear hb ho hm
      go_wp2_with fail
      have HS : Hid (SlsIn (w1.alloc (.cells #[.slice (some ⟨g, 0, none⟩) (m + 1) (m + 1)] 57)) g (w1.heap.size + 1) true (.slice (some ⟨g, 0, none⟩) (m + 1) (m + 1)) qs) := Lib.hid (by
        obtain ⟨r1, r2, r3, r4⟩ := HO1.out.row
        have := r4.in (Nat.le_refl g) (B := w1.heap.size + 1) (by have := r4.1; rw [World.size_alloc] at this; exact this) r2 r3
        rw [HM.out] at this
        exact this)
      refine (findSlot_any _ qs g (w1.heap.size + 1) true id _ (by rw [HM.out]; exact hml) (by simp) HS.out).mono ?_
      rw [HAT.out]
      rintro e w3 ⟨rfl, hb⟩
      have HP3 := Lib.hid (HP2.out.below hb)
      have HO3 := Lib.hid (HO1.out.block (hb.block g HO1.out.row.2.2.2.1))
      have HB3 := Lib.hid (HB2.out.trans (hb.mono HB2.out.size))
      obtain ⟨_, b1, b2⟩ := HP3.out
      clear hb
      go_wp2_with fail
      refine (implTake_any g w1.heap.size (m + 1) j m qs w3 HM.out hml hjm HO3.out.row.2.2.2 HP3.out (by omega) (Nat.le_refl _)).mono ?_
      rintro e w4 ⟨rfl, hr, hp, hb⟩
      have HR4 := Lib.hid hr
      have HB4 := Lib.hid (HB3.out.trans (hb.below (B := w.heap.size) HO3.out.row.1 HB1.out.size HB3.out.size))
      have hrow := HO3.out.row.1
      obtain ⟨_, d1, d2⟩ := hp
      clear hr hb b1 b2
      go_wp2_with fail
      refine bodyPost_ret (v := .tuple #[.slice (some ⟨g, 0, none⟩) m (m + 1), .int .i64 0]) (by simp [results, Try.results24, go_sem]) rfl ?_
      rw [HR.out.1, HR.out.2]
      refine ⟨_, rfl, ?_, HB4.out⟩
      have := HR4.out.in (A := w.heap.size) (B := w4.heap.size) (cap := m + 1) hrow HR4.out.1 (by rw [HLT.out]; omega) (by unfold maxLen; omega)
      rw [HLT.out] at this
      exact this
  · have HR := Lib.hid (rem_err (id := id) hc)
    have hne : (codeS qs != 0) = true := by simpa using hc
    have HC := Lib.hid hc
    obtain ⟨c, hcc⟩ : ∃ c, codeS qs = c := ⟨_, rfl⟩
    rw [hcc] at HR hne HC
    have HCC := Lib.hid hcc
    clear hc hcc
    go_enter Try.func24, Try.ntmps24
    go_wp2_with fail
    refine (cloneHeap_any _ qs A B z _ hl hBw HV.out).mono ?_
    unfold ClonePost
    rw [HCC.out]
    rintro e w1 ⟨hb, ⟨_, rfl⟩ | ⟨h0, _⟩⟩
    · have HB1 := Lib.hid hb
      clear hb
      go_wp2_with fail
      refine bodyPost_ret (v := .tuple #[.slice none 0 0, .int .i64 c]) (by simp [results, Try.results24, go_sem]) rfl ?_
      rw [HR.out.2]
      exact res_err w _ c (HB1.out.alloc HB1.out.size _) _ HR.out.1
    · exact absurd h0 HC.out
end Go.Proofs.Yteaapglkomlnhaa
