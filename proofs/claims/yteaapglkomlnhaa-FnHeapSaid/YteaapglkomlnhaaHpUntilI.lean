/- HeapUntil of the program. No condition of its own. -/
import Derived.Test.YteaapglkomlnhaaHpUntil
namespace Go.Proofs.Yteaapglkomlnhaa
open Go.ChangeShapes Go.WideShapes Go.ChangeAt Go.WideMaps Go.WideElems Go.RowKit

def UnIRel (w : World) (g p N : Nat) (qs : List Sl) (key : Int) (ov : Value) (wr : World) : Prop :=
  ∃ (dn : List Int) (rest : List Sl), (untilL qs key).1 = (untilL rest key).1 ∧ (untilL qs key).2 = dn ++ (untilL rest key).2 ∧ dn.length + rest.length ≤ N ∧ RowSl wr g rest ∧ BoxA wr p (.slice (some ⟨g, 0, none⟩) rest.length N) ∧ OwnI wr (p + 1) ov dn ∧ Below w.heap.size w wr
set_option maxRecDepth 100000 in
set_option maxHeartbeats 2000000 in
theorem implUntil_any (v : Value) (qs : List Sl) (A B : Nat) (z : Bool) (key : Int) (w : World) (hl : qs.length ≤ 1048576) (hBw : B ≤ w.heap.size) (hv : SlsIn w A B z v qs) : Calls Try.prog 26 #[v, .int .i64 key] w (ResUn w (untL qs key) (untI qs key) (codeS qs)) := by
  have HV := Lib.hid hv
  obtain ⟨a, cap, rfl, _⟩ := hv
  by_cases hc : codeS qs = 0
  · have HC := Lib.hid hc
    have HR := Lib.hid (unt_ok (key := key) hc)
    have e0 : ((0 : Int) != 0) = false := by decide
    clear hc
    go_enter Try.func26, Try.ntmps26
    go_wp2_with fail
    refine (cloneHeap_any _ qs A B z _ hl hBw HV.out).mono ?_
    rintro e w1 ⟨hb, ⟨hne, _⟩ | ⟨_, g, rfl, ho⟩⟩
    · exact absurd HC.out hne
    have HB1 := Lib.hid hb
    have HO1 := Lib.hid (own_alloc ho (.cells #[.slice (some ⟨g, 0, none⟩) qs.length qs.length] 57))
    have HB2 := Lib.hid (HB1.out.alloc HB1.out.size (.cells #[.slice (some ⟨g, 0, none⟩) qs.length qs.length] 57))
    have HP2 := Lib.hid (BoxA.new w1 57 (.slice (some ⟨g, 0, none⟩) qs.length qs.length))
    have hgw := ho.row.1
    have hgl := ho.row.2.2.2.1
    have hw1 := HB1.out.size
    clear hb ho
    go_wp2_with fail
    go_loopw [9] (fun ov wr => UnIRel w g w1.heap.size qs.length qs key ov wr) (fun _ wr => boxLen wr w1.heap.size)
    case atStart => exact ⟨[], qs, rfl, rfl, by simp, HO1.out.row.2.2.2, HP2.out, OwnI.nil _ _, HB2.out⟩
    case round =>
      obtain ⟨dn, rest, hu1, hu2, hlen, hr, hp, ho, hb⟩ := hrel
      have HU1 := Lib.hid hu1
      have HU2 := Lib.hid hu2
      have HRR := Lib.hid hr
      have HP := Lib.hid hp
      have HO := Lib.hid ho
      have HB := Lib.hid hb
      have HL := Lib.hid hlen
      obtain ⟨b0, b1, b2⟩ := hp
      clear hu1 hu2 ho hb
      by_cases h0 : 0 < rest.length
      · obtain ⟨m, hm⟩ : ∃ m, rest.length = m + 1 := ⟨rest.length - 1, by omega⟩
        obtain ⟨x, hxx⟩ : ∃ x, rest[0]! = x := ⟨_, rfl⟩
        have HXX := Lib.hid hxx
        have HM := Lib.hid hm
        have hml : m + 1 ≤ 1048576 := by omega
        have hmN : m + 1 ≤ qs.length := by omega
        obtain ⟨c0, c1, _, _⟩ := hr.cells (t := 0) h0
        rw [hxx, Nat.zero_mul] at c0
        rw [hxx, Nat.zero_mul, Nat.zero_add] at c1
        rw [hm] at b1 HP
        have s2 : (0 : Int) < (m : Int) + 1 := by omega
        have s3 : decide ((m : Int) + 1 > 0) = true := decide_eq_true (by omega)
        by_cases hk : x.k ≤ key
        · have HK := Lib.hid hk
          have hdl : dn.length ≤ 1048576 := by omega
          have HT := Lib.hid (implTake_any g w1.heap.size qs.length 0 m rest wr HM.out hml (Nat.zero_le _) HRR.out HP.out (by omega) hmN)
          rw [hxx] at HT
          clear hr hxx hm h0 hlen
          go_wp2_with fail
          refine HT.out.mono ?_
          rintro e w4 ⟨rfl, hr, hp, hbt⟩
          have HR4 := Lib.hid hr
          have HP4 := Lib.hid hp
          have HB4 := Lib.hid (HB.out.trans (hbt.below (B := w.heap.size) hgw hw1 HB.out.size))
          have z4 := hbt.b0.size
          have HO4 := Lib.hid (HO.out.keep (w' := w4) fun k hk1 hk2 _ => hbt.block k hk2 (by omega) (by omega))
          have HO5 := Lib.hid (HO4.out.keep (w' := w4.alloc (.cells #[.int .i64 x.i] 3)) fun k _ hk _ => Below.heap_alloc _ _ k hk)
          have HCN := Lib.hid (Boxed.new w4 3 (.int .i64 x.i)).cell
          have HW : Hid (∀ g6 cp6 w6, OwnI w6 (w1.heap.size + 1) (.slice (some ⟨g6, 0, none⟩) (dn.length + 1) cp6) (dn ++ [x.i]) → (w4.alloc (.cells #[.int .i64 x.i] 3)).grownBy w6 u9.ownBlock → RowSl w6 g (takeL rest 0) ∧ BoxA w6 w1.heap.size (.slice (some ⟨g, 0, none⟩) m qs.length) ∧ Below w.heap.size w w6) := Lib.hid fun g6 cp6 w6 ho6 hg6 => by
            have hoff : ∀ k, k ≤ w1.heap.size → u9.ownBlock ≠ some k := by
              intro k hk e
              have := (HO.out.row k e).1
              omega
            have hsz : w4.heap.size ≤ w6.heap.size := by
              have := hg6.size
              simp at this
              omega
            refine ⟨HR4.out.same hsz ((hg6.block g (by simp; have := HR4.out.1; omega) (fun e => hoff g (by omega) e.symm)).trans (Below.heap_alloc _ _ g HR4.out.1)), HP4.out.same hsz ((hg6.block _ (by simp; have := HP4.out.1; omega) (fun e => hoff _ (Nat.le_refl _) e.symm)).trans (Below.heap_alloc _ _ _ HP4.out.1)), appendI_below (HB4.out.alloc HB4.out.size _) HO5.out hg6 (by omega) (by have := HB4.out.size; simp; omega)⟩
          have hfd : ∀ W : World, (Instr.field 33 (.agg #[.int .i64 x.k, .int .i64 x.i]) 1).run Try.prog W = .ok (.int .i64 x.i) W := fun _ => by kernel_rfl
          clear hr hp hbt hk
          go_wp2_with (at_builtin; refine wpList_append_int rfl (.tmp 29) (.tmp 32) rfl (w1.heap.size + 1) u9 dn rfl HO5.out w4.heap.size x.i rfl HCN.out hdl (by have := HP4.out.1; simp; omega) (dn.length + 1) (by simp) ?_; intro g6 cp6 w6 ho6 hg6; obtain ⟨k1, k2, k3⟩ := HW.out g6 cp6 w6 ho6 hg6; have HR6 := Lib.hid k1; have HP6 := Lib.hid k2; have HB6 := Lib.hid k3; have HO6 := Lib.hid ho6; clear ho6 hg6 k1 k2 k3)
          go_roundw
          case rel =>
            have hgo := untilL_go (qs := rest) (key := key) (by rw [HM.out]; omega) (by rw [HXX.out]; exact HK.out)
            refine ⟨dn ++ [x.i], takeL rest 0, ?_, ?_, ?_, HR6.out, ?_, HO6.out, HB6.out⟩
            · rw [HU1.out, hgo]
            · rw [HU2.out, hgo, HXX.out]
              simp
            · have := HL.out
              have := HM.out
              rw [takeL_length]
              simp
              omega
            · rw [takeL_length, HM.out]
              exact HP6.out
          case measure =>
            rw [boxLen_is HP6.out, boxLen_is HP.out]
            omega
        · have HST : Hid (untilL rest key = (rest, [])) := Lib.hid (untilL_stop h0 (by rw [hxx]; exact hk))
          have hk2 : ¬ x.k ≤ key := hk
          have HRR2 : Hid (SlsIn wr g (g + 1) true (.slice (some ⟨g, 0, none⟩) (m + 1) qs.length) rest) := Lib.hid (hm ▸ hr.in (Nat.le_refl _) (Nat.lt_succ_self _) (by omega) (by unfold maxLen; omega))
          clear hr hxx hm h0 hlen
          go_wp2_with fail
          refine bodyPost_ret (v := .tuple #[.slice (some ⟨g, 0, none⟩) (m + 1) qs.length, u9, .int .i64 0]) (by simp [results, Try.results26, go_sem]) rfl ?_
          rw [HR.out.1, HR.out.2, HU1.out, HU2.out, HST.out, List.append_nil]
          exact ⟨_, _, rfl, res2_of HRR2.out hgw (by have := HRR.out.1; omega) HO.out (by omega) (by have := HP.out.1; omega) (fun k e => Or.inr (by have := (HO.out.row k e).1; omega)), HB.out⟩
      · have hr0 : rest = [] := List.eq_nil_of_length_eq_zero (by omega)
        subst hr0
        have s3 : decide ((0 : Int) > 0) = false := by decide
        clear h0 hlen
        go_wp2_with fail
        refine bodyPost_ret (v := .tuple #[.slice (some ⟨g, 0, none⟩) 0 qs.length, u9, .int .i64 0]) (by simp [results, Try.results26, go_sem]) rfl ?_
        rw [HR.out.1, HR.out.2, HU1.out, HU2.out, untilL_nil, List.append_nil, HC.out]
        exact ⟨_, _, rfl, res2_nil (base := w1.heap.size + 1) ⟨some ⟨g, 0, none⟩, qs.length, rfl, by unfold maxLen; omega⟩ HB.out.size HO.out (by omega) (by have := HP.out.1; omega), HB.out⟩
  · have HR := Lib.hid (unt_err (key := key) hc)
    have hne : (codeS qs != 0) = true := by simpa using hc
    have HC := Lib.hid hc
    obtain ⟨c, hcc⟩ : ∃ c, codeS qs = c := ⟨_, rfl⟩
    rw [hcc] at hne HC
    have HCC := Lib.hid hcc
    clear hc hcc
    go_enter Try.func26, Try.ntmps26
    go_wp2_with fail
    refine (cloneHeap_any _ qs A B z _ hl hBw HV.out).mono ?_
    unfold ClonePost
    rw [HCC.out]
    rintro e w1 ⟨hb, ⟨_, rfl⟩ | ⟨h0, _⟩⟩
    · have HB1 := Lib.hid hb
      clear hb
      go_wp2_with fail
      refine bodyPost_ret (v := .tuple #[.slice none 0 0, .slice none 0 0, .int .i64 c]) (by simp [results, Try.results26, go_sem]) rfl ?_
      rw [HCC.out]
      have hbb := HB1.out.alloc HB1.out.size (.cells #[.slice none 0 0] 57)
      exact ⟨_, _, rfl, res2_nils (Nat.zero_le _) (Nat.zero_le _) hbb.size HR.out.1 HR.out.2, hbb⟩
    · exact absurd h0 HC.out
end Go.Proofs.Yteaapglkomlnhaa
