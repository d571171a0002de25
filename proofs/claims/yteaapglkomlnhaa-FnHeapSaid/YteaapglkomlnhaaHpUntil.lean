/- HeapUntil of the model. No condition of its own. -/
import Derived.Test.YteaapglkomlnhaaHpPop
import Derived.Test.YteaapglkomlnhaaHpInt
namespace Go.Proofs.Yteaapglkomlnhaa
open Go.ChangeShapes Go.WideShapes Go.ChangeAt Go.WideMaps Go.WideElems Go.RowKit

def untL (qs : List Sl) (key : Int) : List Sl := if codeS qs = 0 then (untilL qs key).1 else []
def untI (qs : List Sl) (key : Int) : List Int := if codeS qs = 0 then (untilL qs key).2 else []
theorem unt_length (qs : List Sl) (key : Int) : (untL qs key).length ≤ qs.length ∧ (untI qs key).length ≤ qs.length := by
  unfold untL untI
  split
  · exact untilL_len key _ qs rfl
  · exact ⟨Nat.zero_le _, Nat.zero_le _⟩
theorem unt_err {qs : List Sl} {key : Int} (h : codeS qs ≠ 0) : untL qs key = [] ∧ untI qs key = [] := ⟨if_neg h, if_neg h⟩
theorem unt_ok {qs : List Sl} {key : Int} (h : codeS qs = 0) : untL qs key = (untilL qs key).1 ∧ untI qs key = (untilL qs key).2 := ⟨if_pos h, if_pos h⟩
/-- A slice of numbers that owns its block, or nil. -/
def OwnI (w : World) (base : Nat) (v : Value) (zs : List Int) : Prop := w.ownsRow base 3 1 v zs.length (zs.map (Value.int .i64))
theorem OwnI.nil (w : World) (base : Nat) : OwnI w base (.slice none 0 0) [] := ⟨rfl, .inl ⟨rfl, rfl⟩⟩
theorem OwnI.empty (w : World) (base : Nat) (hb : base ≤ w.heap.size) : OwnI (w.alloc (.cells #[] 3)) base (.slice (some ⟨w.heap.size, 0, none⟩) 0 0) [] := ⟨rfl, .inr ⟨w.heap.size, 0, #[], rfl, hb, heap_alloc_new _ _, Nat.le_refl _, Nat.zero_le _, rfl, rfl⟩⟩
theorem OwnI.cases {w : World} {base : Nat} {v : Value} {zs : List Int} (h : OwnI w base v zs) : (v = .slice none 0 0 ∧ zs = []) ∨ ∃ g cap, v = .slice (some ⟨g, 0, none⟩) zs.length cap ∧ base ≤ g ∧ g < w.heap.size ∧ zs.length ≤ cap ∧ cap ≤ maxLen ∧ Go.Sort.Holds (Value.int .i64) w g 0 zs.toArray := by
  obtain ⟨hl, h | ⟨g, cap, cur, rfl, hb, hh, h1, h2, h3, h4⟩⟩ := id h
  · exact Or.inl ⟨h.1, List.eq_nil_of_length_eq_zero h.2⟩
  · exact Or.inr ⟨g, cap, rfl, hb, (Array.getElem?_eq_some_iff.1 hh).1, h1, h2, holds_of_block_i hh (by simpa using h4)⟩
theorem OwnI.keep {w w' : World} {base : Nat} {v : Value} {zs : List Int} (h : OwnI w base v zs) (hk : ∀ k, base ≤ k → k < w.heap.size → v.ownBlock = some k → w'.heap[k]? = w.heap[k]?) : OwnI w' base v zs := by
  obtain ⟨hl, h | ⟨g, cap, cur, rfl, hb, hh, h1⟩⟩ := h
  · exact ⟨hl, .inl h⟩
  · exact ⟨hl, .inr ⟨g, cap, cur, rfl, hb, (hk g hb (Array.getElem?_eq_some_iff.1 hh).1 rfl).trans hh, h1⟩⟩
theorem OwnI.in {w : World} {base A : Nat} {v : Value} {zs : List Int} (h : OwnI w base v zs) (hA : A ≤ base) : NmIn w A w.heap.size true v zs := by
  rcases h.cases with ⟨rfl, rfl⟩ | ⟨g, cap, rfl, h1, h2, h3, h4, h5⟩
  · exact nilNm_in _ _ _ _ _ _ (Nat.zero_le _)
  · refine ⟨_, _, rfl, h3, h4, fun _ => ⟨g, 0, rfl, by omega, h2, fun j hj => ?_⟩⟩
    have := h5 j (by simpa using hj)
    exact ⟨by rw [this.1]; simp [hj], fun _ => this.2⟩
theorem OwnI.row {w : World} {base : Nat} {v : Value} {zs : List Int} (h : OwnI w base v zs) : ∀ g, v.ownBlock = some g → base ≤ g ∧ g < w.heap.size := by
  intro g hg
  rcases h.cases with ⟨rfl, _⟩ | ⟨g', cap, rfl, h1, h2, _⟩
  · cases hg
  · cases hg
    exact ⟨h1, h2⟩
theorem wpList_append_int {w : World} {ops : Array Oper} {rest : List Oper} {o : Oper} {a : Act} {Q : Exit → Act → World → Prop} (hgd : o.guard = none) (s x : Operand)
    (ho : o.op = .call { callee := .builtin .append, args := #[s, x], argTypes := #[42, 42] })
    (base : Nat) (v : Value) (ps : List Int) (hs : a.eval s = v) (hown : OwnI w base v ps) (p : Nat) (q : Int) (hx : a.eval x = .slice (some ⟨p, 0, none⟩) 1 1) (hq : w.cell? ⟨p, 0, none⟩ = some (.int .i64 q)) (hl : ps.length ≤ 1048576) (hbase : base ≤ w.heap.size) (N : Nat) (hN : N = (ps ++ [q]).length)
    (h : ∀ g cap w', OwnI w' base (.slice (some ⟨g, 0, none⟩) N cap) (ps ++ [q]) → w.grownBy w' v.ownBlock → wpList Try.prog ops Q rest (a.put o.dst (.slice (some ⟨g, 0, none⟩) N cap)) w') : wpList Try.prog ops Q (o :: rest) a w := by
  subst hN
  obtain ⟨i0, hi0, hzz⟩ := Option.map_eq_some_iff.1 info_int
  simp only [Prod.mk.injEq] at hzz
  obtain ⟨hz0, hz1, hz2⟩ := hzz
  obtain ⟨v', w', hr, h2, h3, h4⟩ := run_append_own (P := Try.prog) w base 42 o.type 3 i0 _ 1 8 Try.underlying42 hi0 hz0 hz1 hz2 rfl (by decide) v ps.length (ps.map (Value.int .i64)) hown ⟨p, 0, none⟩ 1 1 [.int .i64 q] rfl (fun j u hu => by
    match j, hu with
    | 0, hu => exact hq.trans hu) (fun u hu => by
    rw [List.mem_singleton.1 hu]
    rfl) (by unfold maxLen; omega) (by omega) hbase
  have h5 : ps.map (Value.int .i64) ++ [.int .i64 q] = (ps ++ [q]).map (Value.int .i64) := by simp
  rw [h5] at h2
  have hl1 : ps.length + 1 = (ps ++ [q]).length := by simp
  rw [hl1] at h2
  obtain ⟨hl2, hh | ⟨g, cap, cur, rfl, hrest⟩⟩ := id h2
  · have := hh.2
    simp at this
  · refine wpList_plain hgd fun _ hK => ?_
    unfold Oper.wp execOp
    simp only [ho, resolve, invoke, builtin, Sem.run_bind, Sem.run_pure, Result.andThen_ok, List.map_toArray, List.map_cons, List.map_nil, hs, hx, hr]
    exact hK _ _ (h g cap w' h2 h3)
theorem appendI_below {w w1 w' : World} {B base : Nat} {v : Value} {ps : List Int} (h : Below B w w1) (hown : OwnI w1 base v ps) (hg : w1.grownBy w' v.ownBlock) (hr : B ≤ base) (hB : B ≤ w1.heap.size) : Below B w w' := by
  refine h.grown hg hB fun k hk => ?_
  have := (hown.row k hk).1
  omega
def UnRel (w : World) (qs : List Sl) (key : Int) (hv ov : Value) (wr : World) : Prop :=
  ∃ (dn : List Int) (rest : List Sl) (A1 B1 base : Nat), (untilL qs key).1 = (untilL rest key).1 ∧ (untilL qs key).2 = dn ++ (untilL rest key).2 ∧ dn.length + rest.length ≤ qs.length ∧ SlsIn wr A1 B1 true hv rest ∧ B1 ≤ wr.heap.size ∧ w.heap.size ≤ A1 ∧ OwnI wr base ov dn ∧ w.heap.size ≤ base ∧ base ≤ wr.heap.size ∧ (∀ g, ov.ownBlock = some g → g < A1 ∨ B1 ≤ g) ∧ Below w.heap.size w wr
/-- Where numbers that own their block, or none, lie. -/
theorem OwnI.range {w : World} {base : Nat} {v : Value} {zs : List Int} (h : OwnI w base v zs) (hb : base ≤ w.heap.size) : ∃ A2 B2, NmIn w A2 B2 true v zs ∧ base ≤ A2 ∧ B2 ≤ w.heap.size ∧ ((∃ g, v.ownBlock = some g ∧ A2 = g ∧ B2 = g + 1) ∨ (A2 = w.heap.size ∧ B2 = w.heap.size)) := by
  rcases h.cases with ⟨rfl, rfl⟩ | ⟨g, cap, rfl, h1, h2, h3, h4, h5⟩
  · exact ⟨w.heap.size, w.heap.size, nilNm_in _ _ _ _ _ _ (Nat.zero_le _), hb, Nat.le_refl _, Or.inr ⟨rfl, rfl⟩⟩
  · refine ⟨g, g + 1, ⟨_, _, rfl, h3, h4, fun _ => ⟨g, 0, rfl, Nat.le_refl _, Nat.lt_succ_self _, fun j hj => ?_⟩⟩, h1, h2, Or.inl ⟨g, rfl, rfl, rfl⟩⟩
    have := h5 j (by simpa using hj)
    exact ⟨by rw [this.1]; simp [hj], fun _ => this.2⟩
def Res2 (w w' : World) (u i : Value) (rs : List Sl) (is : List Int) : Prop := ∃ A1 B1 A2 B2, SlsIn w' A1 B1 true u rs ∧ NmIn w' A2 B2 true i is ∧ w.heap.size ≤ A1 ∧ B1 ≤ w'.heap.size ∧ w.heap.size ≤ A2 ∧ B2 ≤ w'.heap.size ∧ (B1 ≤ A2 ∨ B2 ≤ A1)
theorem res2_of {w w' : World} {u i : Value} {rs : List Sl} {is : List Int} {A1 B1 base : Nat} (hs : SlsIn w' A1 B1 true u rs) (hA : w.heap.size ≤ A1) (hB : B1 ≤ w'.heap.size) (hi : OwnI w' base i is) (hb : w.heap.size ≤ base) (hb2 : base ≤ w'.heap.size) (hd : ∀ g, i.ownBlock = some g → g < A1 ∨ B1 ≤ g) : Res2 w w' u i rs is := by
  obtain ⟨A2, B2, h1, h2, h3, h4⟩ := hi.range hb2
  refine ⟨A1, B1, A2, B2, hs, h1, hA, hB, by omega, h3, ?_⟩
  rcases h4 with ⟨g, hg, e1, e2⟩ | ⟨e1, e2⟩
  · rcases hd g hg with h | h
    · exact Or.inr (by omega)
    · exact Or.inl (by omega)
  · exact Or.inl (by omega)
theorem res2_nil {w w' : World} {u i : Value} {is : List Int} {base : Nat} (hs : ∃ a cap, u = .slice a 0 cap ∧ cap ≤ maxLen) (hz : w.heap.size ≤ w'.heap.size) (hi : OwnI w' base i is) (hb : w.heap.size ≤ base) (hb2 : base ≤ w'.heap.size) : Res2 w w' u i [] is := by
  obtain ⟨a, cap, rfl, hc⟩ := hs
  obtain ⟨A2, B2, h1, h2, h3, h4⟩ := hi.range hb2
  exact ⟨w'.heap.size, w'.heap.size, A2, B2, nil_in _ _ _ _ _ _ hc, h1, hz, Nat.le_refl _, by omega, h3, Or.inr h3⟩
def UnPost (w : World) (rs : List Sl) (is : List Int) (e : Ending) (w' : World) : Prop := ∃ u i, e = .returned (.tuple #[u, i]) ∧ Res2 w w' u i rs is ∧ Below w.heap.size w w'
set_option maxRecDepth 100000 in
set_option maxHeartbeats 2000000 in
theorem specUntil8_any (v : Value) (qs : List Sl) (A B : Nat) (z : Bool) (key : Int) (w : World) (hl : qs.length ≤ 1048576) (hBw : B ≤ w.heap.size) (hv : SlsIn w A B z v qs) : Calls Try.prog 50 #[v, .int .i64 key] w (UnPost w (untilL qs key).1 (untilL qs key).2) := by
  obtain ⟨a, cap, rfl, _⟩ := id hv
  have HSRC := Lib.hid (hv.below ((Below.refl _ _).alloc (Nat.le_refl _) (.cells #[] 33)) hBw)
  clear hv
  go_enter Try.func50, Try.ntmps50
  go_wp2_with (at_builtin; refine wpList_append_sl rfl (.tmp 7) (.tmp 8) 25 rfl Try.underlying25 w.heap.size w.heap.size 0 0 [] rfl rfl (OwnSl.empty w _ (Nat.le_refl _)) A B z _ qs.length cap qs rfl HSRC.out (by simp; omega) (by simp) qs.length (by simp) ?_; intro g1 cp1 w1 hown hgrow; rw [List.nil_append] at hown; have hrow := hown.row; have HB1 := Lib.hid (grow_below ((Below.refl _ _).alloc (Nat.le_refl _) _) hgrow (Nat.le_refl _) (by simp)); have HROW := Lib.hid hrow; clear hown hgrow hrow)
  go_loopw [0, 6] (fun hv ov wr => UnRel w qs key hv ov wr) (fun hv _ _ => match hv with | .slice _ n _ => n | _ => 0)
  case atStart =>
    obtain ⟨r1, r2, r3, r4⟩ := HROW.out
    have r4' := r4.alloc (.cells #[] 3)
    have hz := HB1.out.size
    refine ⟨[], qs, g1, w1.heap.size, w1.heap.size, rfl, rfl, by simp, r4'.in (Nat.le_refl _) r4.1 r2 r3, by simp, r1, OwnI.empty w1 _ (Nat.le_refl _), hz, by simp, ?_, HB1.out.alloc hz _⟩
    intro g hg
    cases hg
    exact Or.inr (Nat.le_refl _)
  case round =>
    clear HROW HB1
    obtain ⟨dn, rest, A1, B1, base, hu1, hu2, hlen, hs, hB1, hA1, ho, hb1, hb2, hd, hb⟩ := hrel
    have HU1 := Lib.hid hu1
    have HU2 := Lib.hid hu2
    have HS := Lib.hid hs
    have HO := Lib.hid ho
    have HD := Lib.hid hd
    have HB := Lib.hid hb
    have HL := Lib.hid hlen
    clear hu1 hu2 ho hd hb
    obtain ⟨a2, cap2, rfl, _, hcm, hx⟩ := hs
    by_cases h0 : 0 < rest.length
    · obtain ⟨g, off, rfl, hg1, hg2, hcl⟩ := hx h0
      obtain ⟨x, hxx⟩ : ∃ x, rest[0]! = x := ⟨_, rfl⟩
      have hq := (hcl 0 h0).1
      rw [← getElem!_pos rest 0 h0, hxx] at hq
      have HXX := Lib.hid hxx
      obtain ⟨c0, c1⟩ := hq
      rw [Nat.zero_mul, Nat.add_zero] at c0 c1
      obtain ⟨m, hm⟩ : ∃ m, rest.length = m + 1 := ⟨rest.length - 1, by omega⟩
      have HM := Lib.hid hm
      have hml : m + 1 ≤ 1048576 := by omega
      rw [hm] at HS ⊢
      have s2 : (0 : Int) < (m : Int) + 1 := by omega
      have s3 : decide ((m : Int) + 1 > 0) = true := decide_eq_true (by omega)
      by_cases hk : x.k ≤ key
      · have HW : Hid (∀ g4 cp4 w4, OwnI w4 base (.slice (some ⟨g4, 0, none⟩) (dn.length + 1) cp4) (dn ++ [x.i]) → (wr.alloc (.cells #[.int .i64 x.i] 3)).grownBy w4 u6.ownBlock → SlsIn w4 A1 B1 true (.slice (some ⟨g, off, none⟩) (m + 1) cap2) rest ∧ Below w.heap.size w w4 ∧ g4 < w4.heap.size ∧ B1 ≤ w4.heap.size ∧ base ≤ w4.heap.size) := Lib.hid fun g4 cp4 w4 ho4 hg4 => by
          refine ⟨HS.out.keep fun k hk1 hk2 => (hg4.block k (by simp; omega) (fun e => by rcases HD.out k e.symm with h | h <;> omega)).trans (Below.heap_alloc _ _ k (by omega)), appendI_below (HB.out.alloc HB.out.size _) (HO.out.keep fun k _ hk _ => Below.heap_alloc _ _ k hk) hg4 hb1 (by have := HB.out.size; simp; omega), (ho4.row g4 rfl).2, ?_, ?_⟩
          · have := hg4.size
            simp at this
            omega
          · have := hg4.size
            simp at this
            omega
        have HO2 := Lib.hid (HO.out.keep (w' := wr.alloc (.cells #[.int .i64 x.i] 3)) fun k _ hk _ => Below.heap_alloc _ _ k hk)
        have HCN := Lib.hid (Boxed.new wr 3 (.int .i64 x.i)).cell
        have hdl : dn.length ≤ 1048576 := by omega
        have HK := Lib.hid hk
        clear hcl hxx hm hx h0 hlen
        go_wp2_with (at_builtin; refine wpList_append_int rfl (.tmp 22) (.tmp 27) rfl base u6 dn rfl HO2.out wr.heap.size x.i rfl HCN.out hdl (by simp; omega) (dn.length + 1) (by simp) ?_; intro g4 cp4 w4 ho4 hg4; obtain ⟨k1, k2, k3, k4, k5⟩ := HW.out g4 cp4 w4 ho4 hg4; have HS4 := Lib.hid k1; have HB4 := Lib.hid k2; have HO4 := Lib.hid ho4; clear ho4 hg4 k1 k2)
        refine (specTake_any _ rest A1 B1 true 0 m w4 HM.out hml k4 (Nat.zero_le _) HS4.out).mono ?_
        rintro e w5 ⟨u, rfl, hn, hb⟩
        obtain ⟨g5, cp5, rfl, n1, n2, n3, n4⟩ := hn
        have HR5 := Lib.hid n4
        have HB5 := Lib.hid hb
        clear hb n4
        go_wp2_with fail
        go_roundw
        case rel =>
          have hgo := untilL_go (qs := rest) (key := key) (by rw [HM.out]; omega) (by rw [HXX.out]; exact HK.out)
          refine ⟨dn ++ [x.i], takeL rest 0, w4.heap.size, w5.heap.size, base, ?_, ?_, ?_, HR5.out.in n3 HR5.out.1 n1 n2, Nat.le_refl _, HB4.out.size, HO4.out.keep (fun k _ hk _ => HB5.out.block k hk), hb1, by have := HB5.out.size; omega, ?_, HB4.out.trans (HB5.out.mono HB4.out.size)⟩
          · rw [HU1.out, hgo]
          · rw [HU2.out, hgo, HXX.out]
            simp
          · have := HL.out
            have := HM.out
            rw [takeL_length]
            simp
            omega
          · intro g' hg'
            cases hg'
            exact Or.inl k3
        case measure =>
          have := HM.out
          show (takeL rest 0).length < m + 1
          rw [takeL_length]
          omega
      · have HST : Hid (untilL rest key = (rest, [])) := Lib.hid (untilL_stop h0 (by rw [hxx]; exact hk))
        have hk2 : ¬ x.k ≤ key := hk
        clear hcl hxx hm hx h0 hlen
        go_wp2_with fail
        refine bodyPost_ret (v := .tuple #[.slice (some ⟨g, off, none⟩) (m + 1) cap2, u6]) (by simp [results, Try.results50, go_sem]) rfl ?_
        rw [HU1.out, HU2.out, HST.out, List.append_nil]
        exact ⟨_, _, rfl, res2_of HS.out hA1 hB1 HO.out hb1 hb2 HD.out, HB.out⟩
    · have hr : rest = [] := List.eq_nil_of_length_eq_zero (by omega)
      subst hr
      have s3 : decide ((0 : Int) > 0) = false := by decide
      clear hx h0 hlen
      go_wp2_with fail
      refine bodyPost_ret (v := .tuple #[.slice a2 0 cap2, u6]) (by simp [results, Try.results50, go_sem]) rfl ?_
      rw [HU1.out, HU2.out, untilL_nil, List.append_nil]
      exact ⟨_, _, rfl, res2_nil ⟨_, _, rfl, hcm⟩ HB.out.size HO.out hb1 hb2, HB.out⟩
/-- A list of slots, a list of numbers and a code are handed back. -/
def ResUn (w : World) (rs : List Sl) (is : List Int) (c : Int) (e : Ending) (w' : World) : Prop := ∃ u i, e = .returned (.tuple #[u, i, .int .i64 c]) ∧ Res2 w w' u i rs is ∧ Below w.heap.size w w'
theorem Res2.below {w w1 w2 : World} {u i : Value} {rs : List Sl} {is : List Int} (h : Res2 w1 w2 u i rs is) (hz : w.heap.size ≤ w1.heap.size) : Res2 w w2 u i rs is := by
  obtain ⟨A1, B1, A2, B2, h1, h2, h3, h4, h5, h6, h7⟩ := h
  exact ⟨A1, B1, A2, B2, h1, h2, by omega, h4, by omega, h6, h7⟩
theorem res2_nils {w w' : World} {a b : Option Addr} {c d : Nat} (hc : c ≤ maxLen) (hd : d ≤ maxLen) (hz : w.heap.size ≤ w'.heap.size) {rs : List Sl} {is : List Int} (hr : rs = []) (hi : is = []) : Res2 w w' (.slice a 0 c) (.slice b 0 d) rs is := by
  subst hr hi
  exact ⟨w'.heap.size, w'.heap.size, w'.heap.size, w'.heap.size, nil_in _ _ _ _ _ _ hc, nilNm_in _ _ _ _ _ _ hd, hz, Nat.le_refl _, hz, Nat.le_refl _, Or.inl (Nat.le_refl _)⟩
set_option maxRecDepth 100000 in
set_option maxHeartbeats 1000000 in
theorem specUntil_any (v : Value) (qs : List Sl) (A B : Nat) (z : Bool) (key : Int) (w : World) (hl : qs.length ≤ 1048576) (hBw : B ≤ w.heap.size) (hv : SlsIn w A B z v qs) : Calls Try.prog 25 #[v, .int .i64 key] w (ResUn w (untL qs key) (untI qs key) (codeS qs)) := by
  have HV := Lib.hid hv
  obtain ⟨a, cap, rfl, _⟩ := hv
  rcases codeS_cases qs with ⟨h1, h2⟩ | ⟨h1, hb, h2⟩ | ⟨hb, h1, h2⟩
  · have HC := Lib.hid h2
    have HR := Lib.hid (unt_err (key := key) (by rw [h2]; decide : codeS qs ≠ 0))
    have s1 : (qs.length : Int) > 4096 := by omega
    clear h2
    go_enter Try.func25, Try.ntmps25
    go_wp2_with fail
    refine bodyPost_ret (v := .tuple #[.slice (some ⟨w.heap.size, 0, none⟩) 0 0, .slice (some ⟨w.heap.size + 1, 0, none⟩) 0 0, .int .i64 2]) (by simp [results, Try.results25, go_sem]) rfl ?_
    rw [HC.out]
    have hbb : Below w.heap.size w ((w.alloc (.cells #[] 33)).alloc (.cells #[] 3)) := ((Below.refl _ _).alloc (Nat.le_refl _) _).alloc (by simp) _
    exact ⟨_, _, rfl, res2_nils (Nat.zero_le _) (Nat.zero_le _) hbb.size HR.out.1 HR.out.2, hbb⟩
  · have HC := Lib.hid h2
    have HR := Lib.hid (unt_err (key := key) (by rw [h2]; decide : codeS qs ≠ 0))
    have HH := Lib.hid hb
    have s1 : ¬ (qs.length : Int) > 4096 := by omega
    clear h2 hb
    go_enter Try.func25, Try.ntmps25
    go_wp2_with fail
    refine (spec08_any _ qs A B z _ hl hBw HV.out).mono ?_
    rw [HH.out]
    rintro e w1 ⟨rfl, hb⟩
    have HB1 := Lib.hid hb
    clear hb
    go_wp2_with fail
    refine bodyPost_ret (v := .tuple #[.slice (some ⟨w1.heap.size, 0, none⟩) 0 0, .slice (some ⟨w1.heap.size + 1, 0, none⟩) 0 0, .int .i64 1]) (by simp [results, Try.results25, go_sem]) rfl ?_
    rw [HC.out]
    have hbb : Below w.heap.size w ((w1.alloc (.cells #[] 33)).alloc (.cells #[] 3)) := (HB1.out.alloc HB1.out.size _).alloc (by have := HB1.out.size; simp; omega) _
    exact ⟨_, _, rfl, res2_nils (Nat.zero_le _) (Nat.zero_le _) hbb.size HR.out.1 HR.out.2, hbb⟩
  · have HC := Lib.hid h2
    have HR := Lib.hid (unt_ok (key := key) h2)
    have HH := Lib.hid hb
    have s1 : ¬ (qs.length : Int) > 4096 := by omega
    clear h2 hb
    go_enter Try.func25, Try.ntmps25
    go_wp2_with fail
    refine (spec08_any _ qs A B z _ hl hBw HV.out).mono ?_
    rw [HH.out]
    rintro e w1 ⟨rfl, hb⟩
    have HB1 := Lib.hid hb
    clear hb
    go_wp2_with fail
    refine (specUntil8_any _ qs A B z key w1 hl (Nat.le_trans hBw HB1.out.size) (HV.out.below HB1.out hBw)).mono ?_
    rintro e w2 ⟨u, i, rfl, hr, hb⟩
    have HRR := Lib.hid (hr.below (w := w) HB1.out.size)
    have HB2 := Lib.hid (HB1.out.trans (hb.mono HB1.out.size))
    clear hr hb
    go_wp2_with fail
    refine bodyPost_ret (v := .tuple #[u, i, .int .i64 0]) (by simp [results, Try.results25, go_sem]) rfl ?_
    rw [HC.out, HR.out.1, HR.out.2]
    exact ⟨_, _, rfl, HRR.out, HB2.out⟩
end Go.Proofs.Yteaapglkomlnhaa
