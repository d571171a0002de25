/- HeapRemove of the model and of the program. No condition of its own. -/
import Derived.Test.YteaapglkomlnhaaHpMark
import Derived.Test.YteaapglkomlnhaaHpFind
import Derived.Test.YteaapglkomlnhaaHpTakeI
namespace Go.Proofs.Yteaapglkomlnhaa
open Go.ChangeShapes Go.WideShapes Go.ChangeAt Go.WideMaps Go.WideElems Go.RowKit

/-- What a removal leaves; its code. -/
def remL (qs : List Sl) (id : Int) : List Sl := if codeS qs = 0 then (if atS qs id < 0 then qs else takeL qs (atS qs id).toNat) else []
def remC (qs : List Sl) (id : Int) : Int := if codeS qs = 0 then (if atS qs id < 0 then 5 else 0) else codeS qs
theorem remL_length (qs : List Sl) (id : Int) : (remL qs id).length ≤ qs.length := by
  unfold remL
  split
  · split
    · exact Nat.le_refl _
    · rw [takeL_length]
      omega
  · exact Nat.zero_le _
theorem rem_err {qs : List Sl} {id : Int} (h : codeS qs ≠ 0) : remL qs id = [] ∧ remC qs id = codeS qs := ⟨if_neg h, if_neg h⟩
theorem rem_none {qs : List Sl} {id : Int} (h : codeS qs = 0) (h2 : atS qs id = -1) : remL qs id = qs ∧ remC qs id = 5 := by
  unfold remL remC
  rw [if_pos h, if_pos h, h2, if_pos (by decide), if_pos (by decide)]
  exact ⟨rfl, rfl⟩
theorem rem_at {qs : List Sl} {id : Int} {j : Nat} (h : codeS qs = 0) (h2 : atS qs id = j) : remL qs id = takeL qs j ∧ remC qs id = 0 := by
  unfold remL remC
  rw [if_pos h, if_pos h, h2, if_neg (by omega), if_neg (by omega)]
  exact ⟨rfl, rfl⟩
theorem NewSl.res {w w' : World} {u : Value} {rs : List Sl} (h : NewSl w.heap.size w' u rs) : SlsIn w' w.heap.size w'.heap.size true u rs := h.in
set_option maxRecDepth 100000 in
set_option maxHeartbeats 1000000 in
theorem specRemove_any (v : Value) (qs : List Sl) (A B : Nat) (z : Bool) (id : Int) (w : World) (hl : qs.length ≤ 1048576) (hBw : B ≤ w.heap.size) (hv : SlsIn w A B z v qs) : Calls Try.prog 23 #[v, .int .i64 id] w (ResSl w (remL qs id) (remC qs id)) := by
  have HV := Lib.hid hv
  obtain ⟨a, cap, rfl, _⟩ := hv
  rcases codeS_cases qs with ⟨h1, h2⟩ | ⟨h1, hb, h2⟩ | ⟨hb, h1, h2⟩
  · have HC := Lib.hid h2
    have HR := Lib.hid (rem_err (id := id) (by rw [h2]; decide : codeS qs ≠ 0))
    have s1 : (qs.length : Int) > 4096 := by omega
    clear h2
    go_enter Try.func23, Try.ntmps23
    go_wp2_with fail
    refine bodyPost_ret (v := .tuple #[.slice (some ⟨w.heap.size, 0, none⟩) 0 0, .int .i64 2]) (by simp [results, Try.results23, go_sem]) rfl ?_
    rw [HR.out.1, HR.out.2, HC.out]
    exact ⟨_, rfl, nil_in _ _ _ _ _ _ (Nat.zero_le _), (Below.refl _ _).alloc (Nat.le_refl _) _⟩
  · have HC := Lib.hid h2
    have HR := Lib.hid (rem_err (id := id) (by rw [h2]; decide : codeS qs ≠ 0))
    have HH := Lib.hid hb
    have s1 : ¬ (qs.length : Int) > 4096 := by omega
    clear h2 hb
    go_enter Try.func23, Try.ntmps23
    go_wp2_with fail
    refine (spec08_any _ qs A B z _ hl hBw HV.out).mono ?_
    rw [HH.out]
    rintro e w1 ⟨rfl, hb⟩
    have HB1 := Lib.hid hb
    clear hb
    go_wp2_with fail
    refine bodyPost_ret (v := .tuple #[.slice (some ⟨w1.heap.size, 0, none⟩) 0 0, .int .i64 1]) (by simp [results, Try.results23, go_sem]) rfl ?_
    rw [HR.out.1, HR.out.2, HC.out]
    exact ⟨_, rfl, nil_in _ _ _ _ _ _ (Nat.zero_le _), HB1.out.alloc HB1.out.size _⟩
  · have HC := Lib.hid h2
    have HH := Lib.hid hb
    have s1 : ¬ (qs.length : Int) > 4096 := by omega
    clear h2 hb
    rcases atS_range qs id with hat | ⟨j, hj, hat⟩
    · have HR := Lib.hid (rem_none HC.out hat)
      have HAT := Lib.hid hat
      clear hat
      go_enter Try.func23, Try.ntmps23
      go_wp2_with fail
      refine (spec08_any _ qs A B z _ hl hBw HV.out).mono ?_
      rw [HH.out]
      rintro e w1 ⟨rfl, hb⟩
      have HB1 := Lib.hid hb
      clear hb
      go_wp2_with fail
      refine (specAt_any _ qs A B z id w1 hl (HV.out.below HB1.out hBw)).mono ?_
      rw [HAT.out]
      rintro e w2 ⟨rfl, rfl⟩
      have hv2 : SlsIn (w1.alloc (.cells #[] 33)) A B z (.slice a qs.length cap) qs := (HV.out.below HB1.out hBw).below ((Below.refl _ _).alloc (Nat.le_refl _) _) (Nat.le_trans hBw HB1.out.size)
      have HV2 := Lib.hid hv2
      clear hv2
      go_wp2_with (at_builtin; refine wpList_append_sl rfl (.tmp 20) (.tmp 21) 25 rfl Try.underlying25 w1.heap.size w1.heap.size 0 0 [] rfl rfl (OwnSl.empty w1 _ (Nat.le_refl _)) A B z _ qs.length cap qs rfl HV2.out (by simp; omega) (by simp) qs.length (by simp) ?_; intro g1 cp1 w3 hown hgrow; rw [List.nil_append] at hown; have hrow := hown.row; have HB3 := Lib.hid (grow_below (HB1.out.alloc HB1.out.size _) hgrow HB1.out.size (by have := HB1.out.size; simp; omega)); have HROW := Lib.hid hrow; clear hown hgrow hrow)
      refine bodyPost_ret (v := .tuple #[.slice (some ⟨g1, 0, none⟩) qs.length cp1, .int .i64 5]) (by simp [results, Try.results23, go_sem]) rfl ?_
      rw [HR.out.1, HR.out.2]
      obtain ⟨r1, r2, r3, r4⟩ := HROW.out
      exact ⟨_, rfl, r4.in (Nat.le_trans HB1.out.size r1) r4.1 r2 r3, HB3.out⟩
    · have HR := Lib.hid (rem_at HC.out hat)
      have HAT := Lib.hid hat
      obtain ⟨m, hm⟩ : ∃ m, qs.length = m + 1 := ⟨qs.length - 1, by omega⟩
      have HM := Lib.hid hm
      have s2 : ¬ (j : Int) < 0 := by omega
      have hjm : j ≤ m := by omega
      have hml : m + 1 ≤ 1048576 := by omega
      clear hat hm
      go_enter Try.func23, Try.ntmps23
      go_wp2_with fail
      refine (spec08_any _ qs A B z _ hl hBw HV.out).mono ?_
      rw [HH.out]
      rintro e w1 ⟨rfl, hb⟩
      have HB1 := Lib.hid hb
      clear hb
      go_wp2_with fail
      refine (specAt_any _ qs A B z id w1 hl (HV.out.below HB1.out hBw)).mono ?_
      rw [HAT.out]
      rintro e w2 ⟨rfl, rfl⟩
      go_wp2_with fail
      refine (specTake_any _ qs A B z j m w1 HM.out hml (Nat.le_trans hBw HB1.out.size) hjm (HV.out.below HB1.out hBw)).mono ?_
      rintro e w3 ⟨u, rfl, hn, hb⟩
      have HB3 := Lib.hid (HB1.out.trans (hb.mono HB1.out.size))
      have HN := Lib.hid (hn.more HB1.out.size)
      clear hn hb
      go_wp2_with fail
      refine bodyPost_ret (v := .tuple #[u, .int .i64 0]) (by simp [results, Try.results23, go_sem]) rfl ?_
      rw [HR.out.1, HR.out.2]
      exact ⟨_, rfl, HN.out.res, HB3.out⟩
end Go.Proofs.Yteaapglkomlnhaa
