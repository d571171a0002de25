/- A slot pushed, in the model. No condition of its own. -/
import Derived.Test.YteaapglkomlnhaaHpSort
import Derived.Deep.RegionHeldLaw
namespace Go.Proofs.Yteaapglkomlnhaa
open Go.ChangeShapes Go.WideShapes Go.ChangeAt Go.WideMaps Go.WideElems Go.RowKit

theorem step_append_sl {w : World} {ops : Array Oper} {o : Oper} {a : Act} {K : Act → World → Prop} {Q : Exit → Act → World → Prop} {E : Prop} (hgd : o.guard = none) (s x : Operand) (t1 : TypeId)
    (ho : o.op = .call { callee := .builtin .append, args := #[s, x], argTypes := #[t1, t1] }) (ht : Try.prog.underlying t1 = some (.slice 33))
    (base g0 cap0 n0 : Nat) (ps : List Sl) (hn0 : n0 = ps.length) (hs : a.eval s = .slice (some ⟨g0, 0, none⟩) n0 cap0) (hown : OwnSl w base g0 cap0 ps)
    (A B : Nat) (z : Bool) (oa : Option Addr) (m c : Nat) (rs : List Sl) (hx : a.eval x = .slice oa m c) (hsrc : SlsIn w A B z (.slice oa m c) rs) (hl : ps.length + rs.length ≤ 2097152) (hbase : base ≤ w.heap.size) (N : Nat) (hN : N = (ps ++ rs).length)
    (h : ∀ g cap w', OwnSl w' base g cap (ps ++ rs) → w.grownBy w' (some g0) → K (a.put o.dst (.slice (some ⟨g, 0, none⟩) N cap)) w') : if Region.wanted o (yielded ops a.tmps) = true then Oper.wp Try.prog o a w K Q else E := by
  have hw : Region.wanted o (yielded ops a.tmps) = true := by simp [Region.wanted, hgd]
  rw [if_pos hw]
  subst hn0 hN
  obtain ⟨g, cap, w', hr, h2, h3⟩ := append_sl_run w t1 o.type ht base g0 cap0 ps hown A B z oa m c rs hsrc hl hbase
  unfold Oper.wp execOp
  simp only [ho, resolve, invoke, builtin, Sem.run_bind, Sem.run_pure, Result.andThen_ok, List.map_toArray, List.map_cons, List.map_nil, hs, hx, hr]
  exact h g cap w' h2 h3
theorem one_in {w : World} {p : Nat} {q : Sl} (h : BlkSl w p q) : SlsIn w p (p + 1) false (.slice (some ⟨p, 0, none⟩) 1 1) [q] := by
  obtain ⟨c0, c1, _, _⟩ := h.cells
  refine ⟨_, 1, rfl, Nat.le_refl _, by unfold maxLen; omega, fun _ => ⟨p, 0, rfl, Nat.le_refl _, Nat.lt_succ_self _, fun j hj => ?_⟩⟩
  have : j = 0 := by simpa using hj
  subst this
  exact ⟨⟨c0, c1⟩, fun h => by cases h⟩
theorem OwnSl.at {w : World} {base g : Nat} (hh : w.heap[g]? = some (.cells #[] 33 (0, 0))) (hb : base ≤ g) : OwnSl w base g 0 [] := ⟨rfl, .inr ⟨g, 0, #[], rfl, hb, hh, Nat.le_refl _, Nat.zero_le _, rfl, rfl⟩⟩
theorem new_two (w : World) (o o' : Obj) : ((w.alloc o).alloc o').drew.heap[w.heap.size + 1]? = some o' := by
  have h := heap_alloc_new (w.alloc o) o'
  rwa [show (w.alloc o).heap.size = w.heap.size + 1 by simp] at h
theorem old_two (w : World) (o o' : Obj) : ((w.alloc o).alloc o').drew.heap[w.heap.size]? = some o := (Below.heap_alloc _ _ _ (by simp)).trans (heap_alloc_new _ _)
theorem SlsIn.drew {w : World} {A B : Nat} {z : Bool} {v : Value} {qs : List Sl} (h : SlsIn w A B z v qs) : SlsIn w.drew A B z v qs := h
set_option maxRecDepth 100000 in
set_option maxHeartbeats 4000000 in
theorem specPush8_any (v : Value) (qs : List Sl) (x : Sl) (A B : Nat) (z : Bool) (w : World) (hl : qs.length ≤ 1048575) (hBw : B ≤ w.heap.size) (hv : SlsIn w A B z v qs) : Calls Try.prog 44 #[v, .agg #[.int .i64 x.k, .int .i64 x.i]] w fun e w' => ∃ u, e = .returned u ∧ NewSl w.heap.size w' u (pushL qs x) ∧ Below w.heap.size w w' := by
  obtain ⟨w2, hw2⟩ : ∃ w2, w.alloc (.cells #[.int .i64 x.k, .int .i64 x.i] 33) = w2 := ⟨_, rfl⟩
  have hz2 : w2.heap.size = w.heap.size + 1 := by rw [← hw2]; simp
  have hB2 : Below w.heap.size w w2 := by
    rw [← hw2]
    exact (Below.refl _ _).alloc (Nat.le_refl _) _
  have hK2 : BlkSl w2 w.heap.size x := by
    rw [← hw2]
    exact BlkSl.new w x _ rfl
  have hs2 := hv.below hB2 hBw
  obtain ⟨a, cap, rfl, _⟩ := hv
  have HB2 := Lib.hid hB2
  have HS2 := Lib.hid hs2
  have HSX : Hid (∀ w', Below w2.heap.size w2 w' → w'.cell? ⟨w.heap.size, 0, none⟩ = some (.int .i64 x.k) ∧ w'.cell? ⟨w.heap.size, 1, none⟩ = some (.int .i64 x.i) ∧ Below w2.heap.size w2 w') := Lib.hid fun w' h => by
    obtain ⟨c0, c1, _, _⟩ := (hK2.below h).cells
    exact ⟨c0, c1, h⟩
  have hB2' : B ≤ w2.heap.size := by omega
  have HW2 := Lib.hid hw2
  have HZ2 := Lib.hid hz2
  clear hB2 hs2 hK2 hw2 hz2
  go_enter Try.func44, Try.ntmps44
  go_upto_region 1 with fail
  rw [HW2.out]
  go_region_held_law (fun w' => w'.cell? ⟨w.heap.size, 0, none⟩ = some (.int .i64 x.k) ∧ w'.cell? ⟨w.heap.size, 1, none⟩ = some (.int .i64 x.i) ∧ Below w2.heap.size w2 w') (first | exact HSX.out _ BB4 | exact HSX.out _ (BB3.alloc BB3.size _) | exact HSX.out _ BB3 | exact HSX.out _ (Below.refl w2.heap.size w2).drew | exact HSX.out _ ((Below.refl w2.heap.size w2).alloc (Nat.le_refl _) _).drew | exact HSX.out _ (((Below.refl w2.heap.size w2).alloc (Nat.le_refl _) _).alloc (by simp) _).drew)
    (first
      | (have hb0 := ((Below.refl w2.heap.size w2).alloc (Nat.le_refl _) (.cells #[] 33)).drew; refine step_append_sl (by rfl) _ _ _ (by rfl) Try.underlying25 w2.heap.size w2.heap.size 0 0 [] rfl (by rfl) (OwnSl.at (heap_alloc_new _ _) (Nat.le_refl _)) A B z a qs.length cap qs (by rfl) (HS2.out.below hb0 hB2') (by simp; omega) hb0.size qs.length (by simp) ?_; intro g3 cp3 w3 hown3 hgrow3; rw [List.nil_append] at hown3; have BB3 : Below w2.heap.size w2 w3 := grow_below hb0 hgrow3 (Nat.le_refl _) hb0.size; have HO3 := Lib.hid hown3)
      | (have hb0 := (((Below.refl w2.heap.size w2).alloc (Nat.le_refl _) (.cells #[] 33)).alloc (by simp) (.cells #[.int .i64 x.k, .int .i64 x.i] 33)).drew; refine step_append_sl (by rfl) _ _ _ (by rfl) Try.underlying25 w2.heap.size w2.heap.size 0 0 [] rfl (by rfl) (OwnSl.at (old_two _ _ _) (Nat.le_refl _)) A B z a qs.length cap qs (by rfl) (HS2.out.below hb0 hB2') (by simp; omega) hb0.size qs.length (by simp) ?_; intro g3 cp3 w3 hown3 hgrow3; rw [List.nil_append] at hown3; have BB3 : Below w2.heap.size w2 w3 := grow_below hb0 hgrow3 (Nat.le_refl _) hb0.size; have HK3 : BlkSl w3 (w2.heap.size + 1) x := ((hgrow3.block (w2.heap.size + 1) (by simp <;> omega) (by simp)).trans (new_two w2 _ _)); have HO3 := Lib.hid hown3)
      | (have hb0 := (((Below.refl w2.heap.size w2).alloc (Nat.le_refl _) (.cells #[.int .i64 x.k, .int .i64 x.i] 33)).alloc (by simp) (.cells #[] 33)).drew; refine step_append_sl (by rfl) _ _ _ (by rfl) Try.underlying25 w2.heap.size (w2.heap.size + 1) 0 0 [] rfl (by rfl) (OwnSl.at (new_two _ _ _) (by simp)) A B z a qs.length cap qs (by rfl) (HS2.out.below hb0 hB2') (by simp; omega) hb0.size qs.length (by simp) ?_; intro g3 cp3 w3 hown3 hgrow3; rw [List.nil_append] at hown3; have BB3 : Below w2.heap.size w2 w3 := grow_below hb0 hgrow3 (by simp) hb0.size; have HK3 : BlkSl w3 w2.heap.size x := ((hgrow3.block w2.heap.size (by simp <;> omega) (by simp)).trans (old_two w2 _ _)); have HO3 := Lib.hid hown3)
      | (refine step_append_sl (by rfl) _ _ _ (by rfl) Try.underlying25 w2.heap.size g3 cp3 qs.length qs rfl (by rfl) (HO3.out.block (Below.heap_alloc _ _ g3 HO3.out.row.2.2.2.1)) w3.heap.size (w3.heap.size + 1) false _ 1 1 [x] (by rfl) (one_in (BlkSl.new w3 x w3.heap.size rfl)) (by simp; omega) (BB3.alloc BB3.size (.cells #[.int .i64 x.k, .int .i64 x.i] 33)).size (qs.length + 1) (by simp) ?_; intro g4 cp4 w4 hown4 hgrow4; have BB4 : Below w2.heap.size w2 w4 := grow_below (BB3.alloc BB3.size (.cells #[.int .i64 x.k, .int .i64 x.i] 33)) hgrow4 HO3.out.row.1 (BB3.alloc BB3.size (.cells #[.int .i64 x.k, .int .i64 x.i] 33)).size; have HO4 := Lib.hid hown4)
      | (refine step_append_sl (by rfl) _ _ _ (by rfl) Try.underlying25 w2.heap.size g3 cp3 qs.length qs rfl (by rfl) HO3.out _ _ false _ 1 1 [x] (by rfl) (one_in HK3) (by simp; omega) BB3.size (qs.length + 1) (by simp) ?_; intro g4 cp4 w4 hown4 hgrow4; have BB4 : Below w2.heap.size w2 w4 := grow_below BB3 hgrow4 HO3.out.row.1 BB3.size; have HO4 := Lib.hid hown4)
      | fail)
  all_goals
    have hlen : (qs ++ [x]).length = qs.length + 1 := by simp
    have HLN := Lib.hid hlen
    obtain ⟨r1, r2, r3, r4⟩ := HO4.out.row
    have hg4 : w.heap.size ≤ g4 := by have := HZ2.out; omega
    have hcp : qs.length + 1 ≤ cp4 := by omega
    have HR4 := Lib.hid r4
    have HB4 := Lib.hid (HB2.out.trans (BB4.mono HB2.out.size))
    have sm : (qs.length : Int) + 1 - 1 = (qs.length : Int) := by omega
    clear hlen r1 r2 r4 BB4
    go_wp2_with fail
    refine (specUp_any g4 cp4 qs.length (qs.length + 1) (qs ++ [x]) _ HLN.out (by omega) (by omega) HR4.out).mono ?_
    rintro e w5 ⟨rfl, hr, hb⟩
    have HB5 := Lib.hid (HB4.out.trans (hb.below hg4 HB4.out.size))
    have HR5 := Lib.hid hr
    have HL5 : Hid ((pushL qs x).length = qs.length + 1) := Lib.hid (pushL_length qs x)
    clear hr hb
    go_wp2_with fail
    go_ret
    exact ⟨_, rfl, ⟨g4, cp4, by rw [HL5.out]; rfl, by rw [HL5.out]; exact hcp, r3, hg4, HR5.out⟩, HB5.out⟩
end Go.Proofs.Yteaapglkomlnhaa
