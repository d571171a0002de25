/- HeapSort of the model and of the program. No condition of its own. -/
import Derived.Test.YteaapglkomlnhaaHpRemI
namespace Go.Proofs.Yteaapglkomlnhaa
open Go.ChangeShapes Go.WideShapes Go.ChangeAt Go.WideMaps Go.WideElems Go.RowKit

def sorL (qs : List Sl) : List Sl := if codeS qs = 0 then sortL qs else []
theorem sorL_length (qs : List Sl) : (sorL qs).length ≤ qs.length := by
  unfold sorL
  split
  · rw [sortL_length _ qs rfl]
    exact Nat.le_refl _
  · exact Nat.zero_le _
theorem sor_err {qs : List Sl} (h : codeS qs ≠ 0) : sorL qs = [] := if_neg h
theorem sor_ok {qs : List Sl} (h : codeS qs = 0) : sorL qs = sortL qs := if_pos h
/-- A slice that owns its block, or nil. -/
def OwnV (w : World) (base : Nat) (v : Value) (qs : List Sl) : Prop := w.ownsRow base 33 2 v qs.length (cellsS qs)
theorem OwnV.nil (w : World) (base : Nat) : OwnV w base (.slice none 0 0) [] := ⟨rfl, .inl ⟨rfl, rfl⟩⟩
theorem OwnV.cases {w : World} {base : Nat} {v : Value} {qs : List Sl} (h : OwnV w base v qs) : (v = .slice none 0 0 ∧ qs = []) ∨ ∃ g cap, v = .slice (some ⟨g, 0, none⟩) qs.length cap ∧ base ≤ g ∧ g < w.heap.size ∧ OwnSl w base g cap qs := by
  obtain ⟨hl, h | ⟨g, cap, cur, rfl, hb, hh, h1⟩⟩ := id h
  · exact Or.inl ⟨h.1, List.eq_nil_of_length_eq_zero h.2⟩
  · exact Or.inr ⟨g, cap, rfl, hb, (Array.getElem?_eq_some_iff.1 hh).1, h⟩
theorem OwnV.keep {w w' : World} {base : Nat} {v : Value} {qs : List Sl} (h : OwnV w base v qs) (hk : ∀ k, base ≤ k → k < w.heap.size → w'.heap[k]? = w.heap[k]?) : OwnV w' base v qs := by
  rcases h.cases with ⟨rfl, rfl⟩ | ⟨g, cap, rfl, h1, h2, h3⟩
  · exact OwnV.nil _ _
  · exact h3.block (hk g h1 h2)
theorem OwnV.in {w : World} {base A : Nat} {v : Value} {qs : List Sl} (h : OwnV w base v qs) (hA : A ≤ base) : SlsIn w A w.heap.size true v qs := by
  rcases h.cases with ⟨rfl, rfl⟩ | ⟨g, cap, rfl, h1, h2, h3⟩
  · exact nil_in _ _ _ _ _ _ (Nat.zero_le _)
  · obtain ⟨_, r2, r3, r4⟩ := h3.row
    exact r4.in (by omega) h2 r2 r3
theorem OwnSl.val {w : World} {base g cap n : Nat} {qs : List Sl} (h : OwnSl w base g cap qs) (hn : n = qs.length) : OwnV w base (.slice (some ⟨g, 0, none⟩) n cap) qs := by
  subst hn
  exact h
theorem one_src {w : World} {p : Nat} {q : Sl} (h : BlkSl w p q) : ∀ j u, (cellsS [q])[j]? = some u → w.cell? ((⟨p, 0, none⟩ : Addr).add j) = some u := by
  obtain ⟨c0, c1, _, _⟩ := h.cells
  intro j u hu
  match j, hu with
  | 0, hu => exact c0.trans hu
  | 1, hu =>
    rw [Go.WideShapes.add_plain]
    exact c1.trans hu
theorem wpList_append_one {w : World} {ops : Array Oper} {rest : List Oper} {o : Oper} {a : Act} {Q : Exit → Act → World → Prop} (hgd : o.guard = none) (s x : Operand) (t1 : TypeId)
    (ho : o.op = .call { callee := .builtin .append, args := #[s, x], argTypes := #[t1, t1] }) (ht : Try.prog.underlying t1 = some (.slice 33))
    (base : Nat) (v : Value) (ps : List Sl) (hs : a.eval s = v) (hown : OwnV w base v ps) (p : Nat) (q : Sl) (hx : a.eval x = .slice (some ⟨p, 0, none⟩) 1 1) (hq : BlkSl w p q) (hl : ps.length ≤ 1048576) (hbase : base ≤ w.heap.size) (N : Nat) (hN : N = (ps ++ [q]).length)
    (h : ∀ g cap w', OwnSl w' base g cap (ps ++ [q]) → w.grownBy w' v.ownBlock → wpList Try.prog ops Q rest (a.put o.dst (.slice (some ⟨g, 0, none⟩) N cap)) w') : wpList Try.prog ops Q (o :: rest) a w := by
  subst hN
  obtain ⟨i0, hi0, hzz⟩ := Option.map_eq_some_iff.1 info_slot
  simp only [Prod.mk.injEq] at hzz
  obtain ⟨hz0, hz1, hz2⟩ := hzz
  obtain ⟨v', w', hr, h2, h3, h4⟩ := run_append_own (P := Try.prog) w base t1 o.type 33 i0 _ 2 16 ht hi0 hz0 hz1 hz2 rfl (by decide) v ps.length (cellsS ps) hown ⟨p, 0, none⟩ 1 1 (cellsS [q]) rfl (one_src hq) (one_cellsS [q]) (by unfold maxLen; omega) (by omega) hbase
  rw [← cellsS_append] at h2
  have hl1 : ps.length + 1 = (ps ++ [q]).length := by simp
  rw [hl1] at h2
  obtain ⟨hl2, hh | ⟨g, cap, cur, rfl, hrest⟩⟩ := id h2
  · have := hh.2
    simp at this
  · refine wpList_plain hgd fun _ hK => ?_
    unfold Oper.wp execOp
    simp only [ho, resolve, invoke, builtin, Sem.run_bind, Sem.run_pure, Result.andThen_ok, List.map_toArray, List.map_cons, List.map_nil, hs, hx, hr]
    exact hK _ _ (h g cap w' h2 h3)
theorem append_below {w w1 w' : World} {B base : Nat} {v : Value} {ps : List Sl} (h : Below B w w1) (hown : OwnV w1 base v ps) (hg : w1.grownBy w' v.ownBlock) (hr : B ≤ base) (hB : B ≤ w1.heap.size) : Below B w w' := by
  refine h.grown hg hB fun k hk => ?_
  rcases hown.cases with ⟨rfl, _⟩ | ⟨g, cap, rfl, h1, _, _⟩
  · cases hk
  · cases hk
    show B ≤ g
    omega
def SoRel (w : World) (qs : List Sl) (hv ov : Value) (wr : World) : Prop :=
  ∃ (dn rest : List Sl) (A1 B1 base : Nat), sortL qs = dn ++ sortL rest ∧ dn.length + rest.length = qs.length ∧ SlsIn wr A1 B1 false hv rest ∧ B1 ≤ wr.heap.size ∧ OwnV wr base ov dn ∧ w.heap.size ≤ base ∧ base ≤ wr.heap.size ∧ (∀ g, ov.ownBlock = some g → g < A1 ∨ B1 ≤ g) ∧ Below w.heap.size w wr
set_option maxRecDepth 100000 in
set_option maxHeartbeats 2000000 in
theorem specSort_any (v : Value) (qs : List Sl) (A B : Nat) (z : Bool) (w : World) (hl : qs.length ≤ 1048576) (hBw : B ≤ w.heap.size) (hv : SlsIn w A B z v qs) : Calls Try.prog 30 #[v] w (ResSl w (sorL qs) (codeS qs)) := by
  have HV := Lib.hid hv
  obtain ⟨a, cap, rfl, _⟩ := hv
  rcases codeS_cases qs with ⟨h1, h2⟩ | ⟨h1, hb, h2⟩ | ⟨hb, h1, h2⟩
  · have HC := Lib.hid h2
    have HR := Lib.hid (sor_err (by rw [h2]; decide : codeS qs ≠ 0))
    have s1 : (qs.length : Int) > 4096 := by omega
    clear h2
    go_enter Try.func30, Try.ntmps30
    go_wp2_with fail
    refine bodyPost_ret (v := .tuple #[.slice (some ⟨w.heap.size, 0, none⟩) 0 0, .int .i64 2]) (by simp [results, Try.results30, go_sem]) rfl ?_
    rw [HR.out, HC.out]
    exact ⟨_, rfl, nil_in _ _ _ _ _ _ (Nat.zero_le _), (Below.refl _ _).alloc (Nat.le_refl _) _⟩
  · have HC := Lib.hid h2
    have HR := Lib.hid (sor_err (by rw [h2]; decide : codeS qs ≠ 0))
    have HH := Lib.hid hb
    have s1 : ¬ (qs.length : Int) > 4096 := by omega
    clear h2 hb
    go_enter Try.func30, Try.ntmps30
    go_wp2_with fail
    refine (spec08_any _ qs A B z _ hl hBw HV.out).mono ?_
    rw [HH.out]
    rintro e w1 ⟨rfl, hb⟩
    have HB1 := Lib.hid hb
    clear hb
    go_wp2_with fail
    refine bodyPost_ret (v := .tuple #[.slice (some ⟨w1.heap.size, 0, none⟩) 0 0, .int .i64 1]) (by simp [results, Try.results30, go_sem]) rfl ?_
    rw [HR.out, HC.out]
    exact ⟨_, rfl, nil_in _ _ _ _ _ _ (Nat.zero_le _), HB1.out.alloc HB1.out.size _⟩
  · have HC := Lib.hid h2
    have HR := Lib.hid (sor_ok h2)
    have HH := Lib.hid hb
    have s1 : ¬ (qs.length : Int) > 4096 := by omega
    clear h2 hb
    go_enter Try.func30, Try.ntmps30
    go_wp2_with fail
    refine (spec08_any _ qs A B z _ hl hBw HV.out).mono ?_
    rw [HH.out]
    rintro e w1 ⟨rfl, hb⟩
    have HB1 := Lib.hid hb
    clear hb
    go_wp2_with fail
    go_loopw [0, 4] (fun hv ov wr => SoRel w qs hv ov wr) (fun hv _ _ => match hv with | .slice _ n _ => n | _ => 0)
    case atStart =>
      refine ⟨[], qs, A, B, w1.heap.size, rfl, by simp, ((HV.out.below HB1.out hBw).below ((Below.refl _ _).alloc (Nat.le_refl _) _) (Nat.le_trans hBw HB1.out.size)).weak, by have := HB1.out.size; simp; omega, OwnSl.empty w1 _ (Nat.le_refl _), HB1.out.size, by simp, ?_, HB1.out.alloc HB1.out.size _⟩
      intro g hg
      cases hg
      exact Or.inr (Nat.le_trans hBw HB1.out.size)
    case round =>
      obtain ⟨dn, rest, A1, B1, base, hsort, hlen, hs, hB1, ho, hb1, hb2, hd, hb⟩ := hrel
      have HSO := Lib.hid hsort
      have HS := Lib.hid hs
      have HO := Lib.hid ho
      have HD := Lib.hid hd
      have HB := Lib.hid hb
      have HL := Lib.hid hlen
      clear hsort ho hd hb
      obtain ⟨a2, cap2, rfl, _, _, hx⟩ := hs
      by_cases h0 : 0 < rest.length
      · obtain ⟨g, off, rfl, hg1, hg2, hcl⟩ := hx h0
        obtain ⟨x, hxx⟩ : ∃ x, rest[0]! = x := ⟨_, rfl⟩
        have hq := (hcl 0 h0).1
        rw [← getElem!_pos rest 0 h0, hxx] at hq
        have HXX := Lib.hid hxx
        obtain ⟨c0, c1⟩ := hq
        rw [Nat.zero_mul, Nat.add_zero] at c0 c1
        obtain ⟨m, hm⟩ : ∃ m, rest.length = m + 1 := ⟨rest.length - 1, by omega⟩
        have HM := Lib.hid hm
        have hml : m + 1 ≤ 1048576 := by omega
        rw [hm] at HS ⊢
        have s2 : (0 : Int) < (m : Int) + 1 := by omega
        have HW : Hid (∀ g4 cp4 w4, OwnSl w4 base g4 cp4 (dn ++ [x]) → (wr.alloc (.cells #[.int .i64 x.k, .int .i64 x.i] 33)).grownBy w4 u4.ownBlock → SlsIn w4 A1 B1 false (.slice (some ⟨g, off, none⟩) (m + 1) cap2) rest ∧ Below w.heap.size w w4 ∧ g4 < w4.heap.size ∧ B1 ≤ w4.heap.size ∧ base ≤ w4.heap.size) := Lib.hid fun g4 cp4 w4 ho4 hg4 => by
          refine ⟨HS.out.keep fun k hk1 hk2 => (hg4.block k (by simp; omega) (fun e => by rcases HD.out k e.symm with h | h <;> omega)).trans (Below.heap_alloc _ _ k (by omega)), append_below (HB.out.alloc HB.out.size _) (HO.out.keep fun k _ hk => Below.heap_alloc _ _ k hk) hg4 hb1 (by have := HB.out.size; simp; omega), ho4.row.2.2.2.1, ?_, ?_⟩
          · have := hg4.size
            simp at this
            omega
          · have := hg4.size
            simp at this
            omega
        have HO2 := Lib.hid (HO.out.keep (w' := wr.alloc (.cells #[.int .i64 x.k, .int .i64 x.i] 33)) fun k _ hk => Below.heap_alloc _ _ k hk)
        have hdl : dn.length ≤ 1048576 := by omega
        clear hcl hxx hm hx h0 hlen
        go_wp2_with (at_builtin; refine wpList_append_one rfl (.tmp 17) (.tmp 21) 25 rfl Try.underlying25 base u4 dn rfl HO2.out wr.heap.size x rfl (BlkSl.new wr x wr.heap.size rfl) hdl (by simp; omega) _ rfl ?_; intro g4 cp4 w4 ho4 hg4; obtain ⟨k1, k2, k3, k4, k5⟩ := HW.out g4 cp4 w4 ho4 hg4; have HS4 := Lib.hid k1; have HB4 := Lib.hid k2; have HO4 := Lib.hid ho4; clear ho4 hg4 k1 k2)
        refine (specTake_any _ rest A1 B1 false 0 m w4 HM.out hml k4 (Nat.zero_le _) HS4.out).mono ?_
        rintro e w5 ⟨u, rfl, hn, hb⟩
        obtain ⟨g5, cp5, rfl, n1, n2, n3, n4⟩ := hn
        have HR5 := Lib.hid n4
        have HB5 := Lib.hid hb
        clear hb n4
        go_wp2_with fail
        go_roundw
        case rel =>
          refine ⟨dn ++ [x], takeL rest 0, w4.heap.size, w5.heap.size, base, ?_, ?_, HR5.out.in n3 HR5.out.1 n1 n2 |>.weak, Nat.le_refl _, (HO4.out.block (HB5.out.block g4 k3)).val (by simp), hb1, by have := HB5.out.size; omega, ?_, HB4.out.trans (HB5.out.mono HB4.out.size)⟩
          · rw [HSO.out, sortL_cons (by rw [HM.out]; omega), HXX.out]
            simp
          · have := HL.out
            have := HM.out
            rw [takeL_length]
            simp
            omega
          · intro g' hg'
            cases hg'
            exact Or.inl k3
        case measure =>
          have := HM.out
          show (takeL rest 0).length < m + 1
          rw [takeL_length]
          omega
      · have hr : rest = [] := List.eq_nil_of_length_eq_zero (by omega)
        subst hr
        have HE : Hid (sorL qs = dn) := Lib.hid (by rw [HR.out, HSO.out, sortL_nil, List.append_nil])
        clear hx h0 hlen
        go_wp2_with fail
        refine bodyPost_ret (v := .tuple #[u4, .int .i64 0]) (by simp [results, Try.results30, go_sem]) rfl ?_
        rw [HE.out, HC.out]
        exact ⟨_, rfl, HO.out.in hb1, HB.out⟩
def SoIRel (w : World) (g p N : Nat) (qs : List Sl) (ov : Value) (wr : World) : Prop :=
  ∃ (dn rest : List Sl), sortL qs = dn ++ sortL rest ∧ dn.length + rest.length = N ∧ RowSl wr g rest ∧ BoxA wr p (.slice (some ⟨g, 0, none⟩) rest.length N) ∧ OwnV wr (p + 1) ov dn ∧ Below w.heap.size w wr
/-- How long the slice in a box is. -/
def boxLen (w : World) (p : Nat) : Nat := match w.cell? ⟨p, 0, none⟩ with | some (.slice _ n _) => n | _ => 0
theorem boxLen_is {w : World} {p : Nat} {a : Option Addr} {n c : Nat} (h : BoxA w p (.slice a n c)) : boxLen w p = n := by
  unfold boxLen
  rw [h.2.1]
set_option maxRecDepth 100000 in
set_option maxHeartbeats 2000000 in
theorem implSort_any (v : Value) (qs : List Sl) (A B : Nat) (z : Bool) (w : World) (hl : qs.length ≤ 1048576) (hBw : B ≤ w.heap.size) (hv : SlsIn w A B z v qs) : Calls Try.prog 31 #[v] w (ResSl w (sorL qs) (codeS qs)) := by
  have HV := Lib.hid hv
  obtain ⟨a, cap, rfl, _⟩ := hv
  by_cases hc : codeS qs = 0
  · have HC := Lib.hid hc
    have HR := Lib.hid (sor_ok hc)
    have e0 : ((0 : Int) != 0) = false := by decide
    clear hc
    go_enter Try.func31, Try.ntmps31
    go_wp2_with fail
    refine (cloneHeap_any _ qs A B z _ hl hBw HV.out).mono ?_
    rintro e w1 ⟨hb, ⟨hne, _⟩ | ⟨_, g, rfl, ho⟩⟩
    · exact absurd HC.out hne
    have HB1 := Lib.hid hb
    have HO1 := Lib.hid (own_alloc ho (.cells #[.slice (some ⟨g, 0, none⟩) qs.length qs.length] 57))
    have HB2 := Lib.hid (HB1.out.alloc HB1.out.size (.cells #[.slice (some ⟨g, 0, none⟩) qs.length qs.length] 57))
    have HP2 := Lib.hid (BoxA.new w1 57 (.slice (some ⟨g, 0, none⟩) qs.length qs.length))
    have hgw := ho.row.1
    have hgl := ho.row.2.2.2.1
    have hw1 := HB1.out.size
    clear hb ho
    go_wp2_with fail
    go_loopw [6] (fun ov wr => SoIRel w g w1.heap.size qs.length qs ov wr) (fun _ wr => boxLen wr w1.heap.size)
    case atStart => exact ⟨[], qs, rfl, by simp, HO1.out.row.2.2.2, HP2.out, OwnV.nil _ _, HB2.out⟩
    case round =>
      obtain ⟨dn, rest, hsort, hlen, hr, hp, ho, hb⟩ := hrel
      have HSO := Lib.hid hsort
      have HRR := Lib.hid hr
      have HP := Lib.hid hp
      have HO := Lib.hid ho
      have HB := Lib.hid hb
      have HL := Lib.hid hlen
      obtain ⟨b0, b1, b2⟩ := hp
      clear hsort hr ho hb
      by_cases h0 : 0 < rest.length
      · obtain ⟨m, hm⟩ : ∃ m, rest.length = m + 1 := ⟨rest.length - 1, by omega⟩
        obtain ⟨x, hxx⟩ : ∃ x, rest[0]! = x := ⟨_, rfl⟩
        have HXX := Lib.hid hxx
        have HM := Lib.hid hm
        have hml : m + 1 ≤ 1048576 := by omega
        have hmN : m + 1 ≤ qs.length := by omega
        rw [hm] at b1 HP
        have s2 : (0 : Int) < (m : Int) + 1 := by omega
        have hdl : dn.length ≤ 1048576 := by omega
        have HT := Lib.hid (implTake_any g w1.heap.size qs.length 0 m rest wr HM.out hml (Nat.zero_le _) HRR.out HP.out (by omega) hmN)
        rw [hxx] at HT
        clear hxx hm h0 hlen
        go_wp2_with fail
        refine HT.out.mono ?_
        rintro e w4 ⟨rfl, hr, hp, hbt⟩
        have HR4 := Lib.hid hr
        have HP4 := Lib.hid hp
        have HB4 := Lib.hid (HB.out.trans (hbt.below (B := w.heap.size) hgw hw1 HB.out.size))
        have z4 := hbt.b0.size
        have HO4 := Lib.hid (HO.out.keep (w' := w4) fun k hk1 hk2 => hbt.block k hk2 (by omega) (by omega))
        have HO5 := Lib.hid (HO4.out.keep (w' := w4.alloc (.cells #[.int .i64 x.k, .int .i64 x.i] 33)) fun k _ hk => Below.heap_alloc _ _ k hk)
        have HW : Hid (∀ g6 cp6 w6, OwnSl w6 (w1.heap.size + 1) g6 cp6 (dn ++ [x]) → (w4.alloc (.cells #[.int .i64 x.k, .int .i64 x.i] 33)).grownBy w6 u6.ownBlock → RowSl w6 g (takeL rest 0) ∧ BoxA w6 w1.heap.size (.slice (some ⟨g, 0, none⟩) m qs.length) ∧ Below w.heap.size w w6) := Lib.hid fun g6 cp6 w6 ho6 hg6 => by
          have hoff : ∀ k, k ≤ w1.heap.size → u6.ownBlock ≠ some k := by
            intro k hk e
            rcases HO.out.cases with ⟨e2, _⟩ | ⟨g7, cap7, e2, h1, _, _⟩
            · rw [e2] at e
              cases e
            · rw [e2] at e
              cases e
              exact absurd h1 (by show ¬ (w1.heap.size + 1 ≤ g7); exact fun h => by have : g7 ≤ w1.heap.size := hk; omega)
          have hsz : w4.heap.size ≤ w6.heap.size := by
            have := hg6.size
            simp at this
            omega
          refine ⟨HR4.out.same hsz ((hg6.block g (by simp; have := HR4.out.1; omega) (fun e => hoff g (by omega) e.symm)).trans (Below.heap_alloc _ _ g HR4.out.1)), HP4.out.same hsz ((hg6.block _ (by simp; have := HP4.out.1; omega) (fun e => hoff _ (Nat.le_refl _) e.symm)).trans (Below.heap_alloc _ _ _ HP4.out.1)), append_below (HB4.out.alloc HB4.out.size _) HO5.out hg6 (by omega) (by have := HB4.out.size; simp; omega)⟩
        clear hr hp hbt
        go_wp2_with (at_builtin; refine wpList_append_one rfl (.tmp 18) (.tmp 20) 25 rfl Try.underlying25 (w1.heap.size + 1) u6 dn rfl HO5.out w4.heap.size x rfl (BlkSl.new w4 x w4.heap.size rfl) hdl (by have := HP4.out.1; simp; omega) _ rfl ?_; intro g6 cp6 w6 ho6 hg6; obtain ⟨k1, k2, k3⟩ := HW.out g6 cp6 w6 ho6 hg6; have HR6 := Lib.hid k1; have HP6 := Lib.hid k2; have HB6 := Lib.hid k3; have HO6 := Lib.hid ho6; clear ho6 hg6 k1 k2 k3)
        go_roundw
        case rel =>
          refine ⟨dn ++ [x], takeL rest 0, ?_, ?_, HR6.out, ?_, HO6.out.val (by simp), HB6.out⟩
          · rw [HSO.out, sortL_cons (by rw [HM.out]; omega), HXX.out]
            simp
          · have := HL.out
            have := HM.out
            rw [takeL_length]
            simp
            omega
          · rw [takeL_length, HM.out]
            exact HP6.out
        case measure =>
          rw [boxLen_is HP6.out, boxLen_is HP.out]
          omega
      · have hr : rest = [] := List.eq_nil_of_length_eq_zero (by omega)
        subst hr
        have HE : Hid (sorL qs = dn) := Lib.hid (by rw [HR.out, HSO.out, sortL_nil, List.append_nil])
        clear h0 hlen
        go_wp2_with fail
        refine bodyPost_ret (v := .tuple #[u6, .int .i64 0]) (by simp [results, Try.results31, go_sem]) rfl ?_
        rw [HE.out, HC.out]
        exact ⟨_, rfl, HO.out.in (by omega), HB.out⟩
  · have HR := Lib.hid (sor_err hc)
    have hne : (codeS qs != 0) = true := by simpa using hc
    have HC := Lib.hid hc
    obtain ⟨c, hcc⟩ : ∃ c, codeS qs = c := ⟨_, rfl⟩
    rw [hcc] at hne HC
    have HCC := Lib.hid hcc
    clear hc hcc
    go_enter Try.func31, Try.ntmps31
    go_wp2_with fail
    refine (cloneHeap_any _ qs A B z _ hl hBw HV.out).mono ?_
    unfold ClonePost
    rw [HCC.out]
    rintro e w1 ⟨hb, ⟨_, rfl⟩ | ⟨h0, _⟩⟩
    · have HB1 := Lib.hid hb
      clear hb
      go_wp2_with fail
      refine bodyPost_ret (v := .tuple #[.slice none 0 0, .int .i64 c]) (by simp [results, Try.results31, go_sem]) rfl ?_
      rw [HCC.out]
      exact res_err w _ c (HB1.out.alloc HB1.out.size _) _ HR.out
    · exact absurd h0 HC.out
end Go.Proofs.Yteaapglkomlnhaa
