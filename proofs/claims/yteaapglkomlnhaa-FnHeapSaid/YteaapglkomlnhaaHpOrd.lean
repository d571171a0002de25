/- The program's order of slots, and its look at a heap's order. No condition of its own. -/
import Derived.Test.YteaapglkomlnhaaHpSpec
import Derived.Test.YteaapglkomlnhaaHpNums
namespace Go.Proofs.Yteaapglkomlnhaa
open Go.ChangeShapes Go.WideShapes Go.ChangeAt Go.WideMaps Go.WideElems Go.RowKit

theorem precedes_any (a b : Sl) (w : World) : Calls Try.prog 114 #[.agg #[.int .i64 a.k, .int .i64 a.i], .agg #[.int .i64 b.k, .int .i64 b.i]] w fun e w' => e = .returned (.bool (ltS a b)) ∧ Below w.heap.size w w' := by
  obtain ⟨x, hx⟩ : ∃ x, ltS a b = x := ⟨_, rfl⟩
  rw [hx]
  have HX := Lib.hid hx
  clear hx
  by_cases h1 : a.k < b.k
  · have HE : Hid (x = true) := Lib.hid (by rw [← HX.out, ltS_iff]; exact Or.inl h1)
    go_enter Try.func114, Try.ntmps114
    go_wp2_with fail
    go_ret
    exact ⟨bool_end HE.out.symm, ((Below.refl _ _).alloc (Nat.le_refl _) _).alloc (by simp) _⟩
  · by_cases h2 : a.k = b.k
    · have e2 : (a.k == b.k) = true := by simp [h2]
      by_cases h3 : a.i < b.i
      · have HE : Hid (x = true) := Lib.hid (by rw [← HX.out, ltS_iff]; exact Or.inr ⟨h2, h3⟩)
        clear h2
        go_enter Try.func114, Try.ntmps114
        go_wp2_with fail
        go_ret
        exact ⟨bool_end HE.out.symm, ((Below.refl _ _).alloc (Nat.le_refl _) _).alloc (by simp) _⟩
      · have HE : Hid (x = false) := Lib.hid (by rw [← HX.out, ltS_not]; omega)
        clear h2
        go_enter Try.func114, Try.ntmps114
        go_wp2_with fail
        go_ret
        exact ⟨bool_end HE.out.symm, ((Below.refl _ _).alloc (Nat.le_refl _) _).alloc (by simp) _⟩
    · have e2 : (a.k == b.k) = false := by simp [h2]
      have HE : Hid (x = false) := Lib.hid (by rw [← HX.out, ltS_not]; omega)
      clear h2
      go_enter Try.func114, Try.ntmps114
      go_wp2_with fail
      go_ret
      exact ⟨bool_end HE.out.symm, ((Below.refl _ _).alloc (Nat.le_refl _) _).alloc (by simp) _⟩
theorem parent_any (k : Nat) (hk0 : 0 < k) (hk : k ≤ 1048576) (w : World) : Calls Try.prog 62 #[.int .i64 k] w fun e w' => e = .returned (.int .i64 (((k - 1) / 2 : Nat) : Int)) ∧ w = w' := by
  obtain ⟨pn, hpn⟩ : ∃ pn, (k - 1) / 2 = pn := ⟨_, rfl⟩
  rw [hpn]
  have gq2 : ((k : Int) - 1).tdiv 2 = (pn : Int) := by rw [Int.tdiv_eq_ediv_of_nonneg (by omega)]; omega
  have gw : IntKind.i64.wrap ((k : Int) - 1) = (k : Int) - 1 := by rw [IntKind.wrap_i64]; omega
  have gw2 : IntKind.i64.wrap (pn : Int) = (pn : Int) := by rw [IntKind.wrap_i64]; omega
  clear hpn
  go_enter Try.func62, Try.ntmps62
  go_wp2_with fail
  go_ret
  exact ⟨rfl, by trivial⟩
theorem meth_prec (x y : Value) (w : World) : (callMethod (.iface 33 x) "loop.example/g00803/impl.precedes" #[y]).run Try.prog w = .ok (.enter 114 #[x, y]) w := by kernel_rfl
/-- A call by an interface value in a quiet region. -/
theorem quiet_prec {C : World → Prop} {a : Act} {o : Oper} {K : Act → Prop} (r s : Operand) (ats : Array TypeId) (p q : Sl) (v : Bool) (ho : o.op = .call { callee := .invoke r "loop.example/g00803/impl.precedes", args := #[s], argTypes := ats })
    (hr : a.eval r = .iface 33 (.agg #[.int .i64 p.k, .int .i64 p.i])) (hs : a.eval s = .agg #[.int .i64 q.k, .int .i64 q.i]) (hv : ltS p q = v)
    (hC : ∀ w w', C w → Below w.heap.size w w' → C w') (hk : K (a.put o.dst (.bool v))) : o.quiet Try.prog a C K := by
  refine ⟨_, fun w hw => ?_, hk⟩
  unfold Oper.quietAt
  have e : (execOp a.eval o).run Try.prog w = .ok (.enter 114 #[.agg #[.int .i64 p.k, .int .i64 p.i], .agg #[.int .i64 q.k, .int .i64 q.i]]) w := by
    have h := meth_prec (.agg #[.int .i64 p.k, .int .i64 p.i]) (.agg #[.int .i64 q.k, .int .i64 q.i]) w
    simp only [execOp, ho, resolve, invoke, Sem.run_bind, Sem.run_pure, Result.andThen_ok, List.map_toArray, List.map_cons, List.map_nil, hs, hr]
    exact h
  rw [e]
  refine ⟨rfl, (precedes_any p q w).mono fun e w' h => ?_⟩
  rw [h.1, hv]
  exact ⟨rfl, hC w w' hw h.2⟩
theorem bcl_next {w : World} : ∀ u u' : World, (∃ i : BCl w, u = i.w) → Below u.heap.size u u' → ∃ i : BCl w, u' = i.w := by
  rintro u u' ⟨i, rfl⟩ h
  exact i.next h
def ordB (qs : List Sl) : Bool := decide (∀ j, j < qs.length → 0 < j → ltS qs[j]! qs[(j - 1) / 2]! = false)
theorem ordB_yes {qs : List Sl} (h : ∀ j, j < qs.length → 0 < j → ltS qs[j]! qs[(j - 1) / 2]! = false) : ordB qs = true := decide_eq_true h
theorem ordB_no {qs : List Sl} {j : Nat} (h : j < qs.length) (h0 : 0 < j) (g : ltS qs[j]! qs[(j - 1) / 2]! = true) : ordB qs = false := decide_eq_false fun k => by
  rw [k j h h0] at g
  exact Bool.noConfusion g
set_option maxHeartbeats 4000000 in
set_option maxRecDepth 100000 in
theorem ordered_any (v : Value) (qs : List Sl) (A B : Nat) (z : Bool) (w : World) (hl : qs.length ≤ 1048576) (hBw : B ≤ w.heap.size) (hv : SlsIn w A B z v qs) : Calls Try.prog 42 #[v] w fun e w' => e = .returned (.bool (ordB qs)) ∧ Below w.heap.size w w' := by
  obtain ⟨ans, hans⟩ : ∃ ans, ordB qs = ans := ⟨_, rfl⟩
  rw [hans]
  have HA := Lib.hid hans
  clear hans
  obtain ⟨a, cap, rfl, hle, hcm, hx⟩ := hv
  have HX := Lib.hid hx
  clear hx hle hcm
  go_enter Try.func42, Try.ntmps42
  go_wp2
  go_loopw [3] (fun i wr => ∃ k : Nat, 1 ≤ k ∧ (k ≤ qs.length ∨ k = 1) ∧ i = .int .i64 k ∧ (∀ m, m < k → 0 < m → ltS qs[m]! qs[(m - 1) / 2]! = false) ∧ Below w.heap.size w wr) (fun i _ => qs.length + 1 - (intOf i).toNat)
  case atStart => exact ⟨1, Nat.le_refl _, Or.inr rfl, rfl, fun m h h2 => by omega, Below.refl _ _⟩
  case round =>
    obtain ⟨k, hk1, hk2, rfl, hup, hb⟩ := hrel
    have HB := Lib.hid hb
    have HU := Lib.hid hup
    clear hb hup
    by_cases hlt : k < qs.length
    · obtain ⟨g, off, rfl, _, hg, hcl⟩ := HX.out (by omega)
      obtain ⟨q, hq⟩ : ∃ q : Sl, qs[k] = q := ⟨_, rfl⟩
      have h1 := (hcl k hlt).1.below HB.out (by omega)
      rw [hq] at h1
      have HQ : Hid (qs[k]! = q) := Lib.hid (by rw [getElem!_pos qs k hlt]; exact hq)
      obtain ⟨c0, c1⟩ := h1
      have s1 : (k : Int) < qs.length := by omega
      have s0 : (0 : Int) ≤ (k : Int) := by omega
      have hN : Nonempty (BCl wr) := BCl.full wr
      have q0x := BCl.cell c0
      have q1x := BCl.cell c1
      obtain ⟨pn, hpn⟩ : ∃ pn, (k - 1) / 2 = pn := ⟨_, rfl⟩
      have hpl : pn < qs.length := by omega
      obtain ⟨p, hp⟩ : ∃ p : Sl, qs[pn] = p := ⟨_, rfl⟩
      have h2 := (hcl pn hpl).1.below HB.out (by omega)
      rw [hp] at h2
      have HP : Hid (qs[(k - 1) / 2]! = p) := Lib.hid (by rw [hpn, getElem!_pos qs pn hpl]; exact hp)
      obtain ⟨d0, d1⟩ := h2
      have q2x := BCl.cell d0
      have q3x := BCl.cell d1
      have gp0 : (0 : Int) ≤ (pn : Int) := by omega
      have gp1 : (pn : Int) < qs.length := by omega
      have HPN := Lib.hid hpn
      clear hcl hp hpn d0 d1 hq c0 c1
      cases r4 : ltS q p with
      | true =>
        have HE : Hid (ans = false) := Lib.hid (by rw [← HA.out]; exact ordB_no hlt (by omega) (by rw [HQ.out, HP.out]; exact r4))
        go_upto_region 4 with fail
        refine wp_region_below (fun w' => ∃ i : BCl wr, w' = i.w) (by kernel_rfl) (by kernel_rfl) (BCl.start wr) ?_
        repeat (go_big_quiet_step (first | (go_at_call 62; rename_i i; with_reducible refine (parent_any k (by omega) (by omega) i.w).mono ?_; rw [HPN.out]; intro e w' h; exact ⟨h.1, i.same h.2⟩)))
        go_big_quiet_want
        refine quiet_prec (.tmp 14) (.tmp 19) _ q p _ rfl rfl rfl r4 bcl_next ?_
        go_big_quiet_on
        refine wpQuiet_nil ?_
        intro _ hw'
        obtain ⟨i, rfl⟩ := hw'
        clear q0x q1x q2x q3x hN
        go_wp2_with fail
        go_ret
        exact ⟨bool_end HE.out.symm, HB.out.trans (i.below.mono HB.out.size)⟩
      | false =>
        have HOK : Hid (ltS qs[k]! qs[(k - 1) / 2]! = false) := Lib.hid (by rw [HQ.out, HP.out]; exact r4)
        go_upto_region 4 with fail
        refine wp_region_below (fun w' => ∃ i : BCl wr, w' = i.w) (by kernel_rfl) (by kernel_rfl) (BCl.start wr) ?_
        repeat (go_big_quiet_step (first | (go_at_call 62; rename_i i; with_reducible refine (parent_any k (by omega) (by omega) i.w).mono ?_; rw [HPN.out]; intro e w' h; exact ⟨h.1, i.same h.2⟩)))
        go_big_quiet_want
        refine quiet_prec (.tmp 14) (.tmp 19) _ q p _ rfl rfl rfl r4 bcl_next ?_
        go_big_quiet_on
        refine wpQuiet_nil ?_
        intro _ hw'
        obtain ⟨i, rfl⟩ := hw'
        clear q0x q1x q2x q3x hN
        go_wp2_with fail
        go_roundw
        case rel =>
          refine ⟨k + 1, by omega, Or.inl (by omega), by go_num, fun m hm h0 => ?_, HB.out.trans (i.below.mono HB.out.size)⟩
          by_cases e : m = k
          · rw [e]
            exact HOK.out
          · exact HU.out m (by omega) h0
        case measure => simp [intOf]; omega
    · have s1 : ¬ (k : Int) < qs.length := by omega
      have HE : Hid (ans = true) := Lib.hid (by rw [← HA.out]; exact ordB_yes fun j h h0 => HU.out j (by omega) h0)
      go_wp2
      go_ret
      exact ⟨bool_end HE.out.symm, HB.out⟩
end Go.Proofs.Yteaapglkomlnhaa
