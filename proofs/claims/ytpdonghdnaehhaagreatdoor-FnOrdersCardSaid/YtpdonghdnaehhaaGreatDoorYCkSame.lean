/- A cookie compared with itself; two rows of cookies compared by the law's helper; the model's SortCookies. -/
import Derived.Test.YtpdonghdnaehhaaGreatDoorYCkSort4
import Derived.Laws.Small
import Derived.ChangeKeysEq
namespace Go.Proofs.YtpdonghdnaehhaaGreatDoor
open Go.ChangeShapes Go.WideShapes Go.ChangeAt Go.WideMaps Go.WideElems Go.RowKit

theorem neq_guard_ck (x y : Operand) (q : Ck) (W : World) : (eqGuard .neq 41 x y (.agg #[.int .i64 q.i, .string q.n, .string q.v, .string q.d, .string q.p, .bool q.ho, .bool q.sc, .bool q.ht, .int .i64 q.s, .int .i64 q.x, .int .i64 q.m, .int .i64 q.u]) (.agg #[.int .i64 q.i, .string q.n, .string q.v, .string q.d, .string q.p, .bool q.ho, .bool q.sc, .bool q.ht, .int .i64 q.s, .int .i64 q.x, .int .i64 q.m, .int .i64 q.u])).run Tryz.prog W = .ok () W := by
  have h : Tryz.prog.eqGuardType Tryz.prog.depth 41 = false := by kernel_rfl
  simp only [eqGuard]
  simp [h]
theorem neq_self_ck (q : Ck) (W : World) : (binOp .neq 41 (.agg #[.int .i64 q.i, .string q.n, .string q.v, .string q.d, .string q.p, .bool q.ho, .bool q.sc, .bool q.ht, .int .i64 q.s, .int .i64 q.x, .int .i64 q.m, .int .i64 q.u]) (.agg #[.int .i64 q.i, .string q.n, .string q.v, .string q.d, .string q.p, .bool q.ho, .bool q.sc, .bool q.ht, .int .i64 q.s, .int .i64 q.x, .int .i64 q.m, .int .i64 q.u])).run Tryz.prog W = .ok (.bool false) W := by
  have h : Tryz.prog.stoodInHeld 41 = false := by kernel_rfl
  have f1 : ∀ d x y (w : World), (Op.equalIn (d + 1) 9 (.string x) (.string y)).run Tryz.prog w = .ok (x == y) w := fun d x y w => by
    simp [Op.equalIn, run_underlying Tryz.underlying9]
  have f2 : ∀ d x y (w : World), (Op.equalIn (d + 1) 4 (.bool x) (.bool y)).run Tryz.prog w = .ok (x == y) w := fun d x y w => by
    simp [Op.equalIn, run_underlying Tryz.underlying4]
  have f3 : ∀ d x y (w : World), (Op.equalIn (d + 1) 3 (.int .i64 x) (.int .i64 y)).run Tryz.prog w = .ok (x == y) w := fun d x y w => by
    simp [Op.equalIn, run_underlying Tryz.underlying3]
  have e1 : ∀ x y (w : World), (Op.equalIn 9999 9 (.string x) (.string y)).run Tryz.prog w = .ok (x == y) w := fun x y w => f1 9998 x y w
  have e2 : ∀ x y (w : World), (Op.equalIn 9999 4 (.bool x) (.bool y)).run Tryz.prog w = .ok (x == y) w := fun x y w => f2 9998 x y w
  have e3 : ∀ x y (w : World), (Op.equalIn 9999 3 (.int .i64 x) (.int .i64 y)).run Tryz.prog w = .ok (x == y) w := fun x y w => f3 9998 x y w
  have p0 : ∀ w, (part 3 #[.int .i64 q.i, .string q.n, .string q.v, .string q.d, .string q.p, .bool q.ho, .bool q.sc, .bool q.ht, .int .i64 q.s, .int .i64 q.x, .int .i64 q.m, .int .i64 q.u] 0).run Tryz.prog w = .ok (.int .i64 q.i) w := fun w => run_part_plain w (by kernel_rfl) rfl
  have p1 : ∀ w, (part 9 #[.int .i64 q.i, .string q.n, .string q.v, .string q.d, .string q.p, .bool q.ho, .bool q.sc, .bool q.ht, .int .i64 q.s, .int .i64 q.x, .int .i64 q.m, .int .i64 q.u] 1).run Tryz.prog w = .ok (.string q.n) w := fun w => run_part_plain w (by kernel_rfl) rfl
  have p2 : ∀ w, (part 9 #[.int .i64 q.i, .string q.n, .string q.v, .string q.d, .string q.p, .bool q.ho, .bool q.sc, .bool q.ht, .int .i64 q.s, .int .i64 q.x, .int .i64 q.m, .int .i64 q.u] 2).run Tryz.prog w = .ok (.string q.v) w := fun w => run_part_plain w (by kernel_rfl) rfl
  have p3 : ∀ w, (part 9 #[.int .i64 q.i, .string q.n, .string q.v, .string q.d, .string q.p, .bool q.ho, .bool q.sc, .bool q.ht, .int .i64 q.s, .int .i64 q.x, .int .i64 q.m, .int .i64 q.u] 3).run Tryz.prog w = .ok (.string q.d) w := fun w => run_part_plain w (by kernel_rfl) rfl
  have p4 : ∀ w, (part 9 #[.int .i64 q.i, .string q.n, .string q.v, .string q.d, .string q.p, .bool q.ho, .bool q.sc, .bool q.ht, .int .i64 q.s, .int .i64 q.x, .int .i64 q.m, .int .i64 q.u] 4).run Tryz.prog w = .ok (.string q.p) w := fun w => run_part_plain w (by kernel_rfl) rfl
  have p5 : ∀ w, (part 4 #[.int .i64 q.i, .string q.n, .string q.v, .string q.d, .string q.p, .bool q.ho, .bool q.sc, .bool q.ht, .int .i64 q.s, .int .i64 q.x, .int .i64 q.m, .int .i64 q.u] 5).run Tryz.prog w = .ok (.bool q.ho) w := fun w => run_part_plain w (by kernel_rfl) rfl
  have p6 : ∀ w, (part 4 #[.int .i64 q.i, .string q.n, .string q.v, .string q.d, .string q.p, .bool q.ho, .bool q.sc, .bool q.ht, .int .i64 q.s, .int .i64 q.x, .int .i64 q.m, .int .i64 q.u] 6).run Tryz.prog w = .ok (.bool q.sc) w := fun w => run_part_plain w (by kernel_rfl) rfl
  have p7 : ∀ w, (part 4 #[.int .i64 q.i, .string q.n, .string q.v, .string q.d, .string q.p, .bool q.ho, .bool q.sc, .bool q.ht, .int .i64 q.s, .int .i64 q.x, .int .i64 q.m, .int .i64 q.u] 7).run Tryz.prog w = .ok (.bool q.ht) w := fun w => run_part_plain w (by kernel_rfl) rfl
  have p8 : ∀ w, (part 3 #[.int .i64 q.i, .string q.n, .string q.v, .string q.d, .string q.p, .bool q.ho, .bool q.sc, .bool q.ht, .int .i64 q.s, .int .i64 q.x, .int .i64 q.m, .int .i64 q.u] 8).run Tryz.prog w = .ok (.int .i64 q.s) w := fun w => run_part_plain w (by kernel_rfl) rfl
  have p9 : ∀ w, (part 3 #[.int .i64 q.i, .string q.n, .string q.v, .string q.d, .string q.p, .bool q.ho, .bool q.sc, .bool q.ht, .int .i64 q.s, .int .i64 q.x, .int .i64 q.m, .int .i64 q.u] 9).run Tryz.prog w = .ok (.int .i64 q.x) w := fun w => run_part_plain w (by kernel_rfl) rfl
  have p10 : ∀ w, (part 3 #[.int .i64 q.i, .string q.n, .string q.v, .string q.d, .string q.p, .bool q.ho, .bool q.sc, .bool q.ht, .int .i64 q.s, .int .i64 q.x, .int .i64 q.m, .int .i64 q.u] 10).run Tryz.prog w = .ok (.int .i64 q.m) w := fun w => run_part_plain w (by kernel_rfl) rfl
  have p11 : ∀ w, (part 3 #[.int .i64 q.i, .string q.n, .string q.v, .string q.d, .string q.p, .bool q.ho, .bool q.sc, .bool q.ht, .int .i64 q.s, .int .i64 q.x, .int .i64 q.m, .int .i64 q.u] 11).run Tryz.prog w = .ok (.int .i64 q.u) w := fun w => run_part_plain w (by kernel_rfl) rfl
  have r : ∀ b : ByteArray, (b == b) = true := fun b => by
    show (b.data == b.data) = true
    simp
  simp only [binOp, Op.equal, Op.maxDepth]
  rw [show 10000 = 9998 + 1 + 1 from rfl, Op.equalIn]
  simp [run_underlying Tryz.underlying41, h, e1, e2, e3, r, p0, p1, p2, p3, p4, p5, p6, p7, p8, p9, p10, p11]

set_option maxHeartbeats 4000000 in
set_option maxRecDepth 100000 in
theorem sameCk_any (u v : Value) (B B2 : Nat) (qs : List Ck) (w : World) (hl : qs.length ≤ 1000) (hu : RowCk w B u qs) (hv : RowCk w B2 v qs) : Calls Tryz.prog 39 #[u, v] w fun e w' => e = .returned (.bool true) ∧ Below w.heap.size w w' := by
  obtain ⟨a, cap, rfl, _, _, hx⟩ := hu
  obtain ⟨a2, cap2, rfl, _, _, hx2⟩ := hv
  have HX := Lib.hid hx
  have HX2 := Lib.hid hx2
  clear hx hx2
  have hne : ((qs.length : Int) != (qs.length : Int)) = false := by simp
  go_enter Tryz.func39, Tryz.ntmps39
  go_wp2_with fail
  go_loopw [5] (fun i wr => ∃ k : Nat, k ≤ qs.length ∧ i = .int .i64 k ∧ Below w.heap.size w wr) (fun i _ => qs.length - (intOf i).toNat)
  case atStart => exact ⟨0, Nat.zero_le _, rfl, Below.refl _ _⟩
  case round =>
    obtain ⟨k, hk, rfl, hb⟩ := hrel
    have HB := Lib.hid hb
    clear hb
    by_cases hlt : k < qs.length
    · obtain ⟨g, rfl, _, hg, _, hcl⟩ := HX.out (by omega)
      obtain ⟨g2, rfl, _, hg2, _, hcl2⟩ := HX2.out (by omega)
      obtain ⟨q, hq⟩ : ∃ q : Ck, qs[k] = q := ⟨_, rfl⟩
      have h1 := (hcl k hlt).below HB.out hg
      have h2 := (hcl2 k hlt).below HB.out hg2
      rw [hq] at h1 h2
      obtain ⟨c0, c1, c2, c3, c4, c5, c6, c7, c8, c9, c10, c11⟩ := h1
      obtain ⟨d0, d1, d2, d3, d4, d5, d6, d7, d8, d9, d10, d11⟩ := h2
      have s1 : (k : Int) < qs.length := by omega
      have ng : ∀ (x y : Operand) (W : World), (eqGuard .neq 41 x y (.agg #[.int .i64 q.i, .string q.n, .string q.v, .string q.d, .string q.p, .bool q.ho, .bool q.sc, .bool q.ht, .int .i64 q.s, .int .i64 q.x, .int .i64 q.m, .int .i64 q.u]) (.agg #[.int .i64 q.i, .string q.n, .string q.v, .string q.d, .string q.p, .bool q.ho, .bool q.sc, .bool q.ht, .int .i64 q.s, .int .i64 q.x, .int .i64 q.m, .int .i64 q.u])).run Tryz.prog W = .ok () W := fun x y W => neq_guard_ck x y q W
      have nq : ∀ W : World, (binOp .neq 41 (.agg #[.int .i64 q.i, .string q.n, .string q.v, .string q.d, .string q.p, .bool q.ho, .bool q.sc, .bool q.ht, .int .i64 q.s, .int .i64 q.x, .int .i64 q.m, .int .i64 q.u]) (.agg #[.int .i64 q.i, .string q.n, .string q.v, .string q.d, .string q.p, .bool q.ho, .bool q.sc, .bool q.ht, .int .i64 q.s, .int .i64 q.x, .int .i64 q.m, .int .i64 q.u])).run Tryz.prog W = .ok (.bool false) W := fun W => neq_self_ck q W
      clear hq hcl hcl2
      go_wp2_with fail
      go_region
      all_goals go_wp2_with fail
      all_goals go_roundw
      case rel => exact ⟨k + 1, by omega, by go_num, HB.out.drew⟩
      case measure => simp [intOf]; omega
    · go_wp2
      go_ret
      exact ⟨rfl, HB.out⟩
set_option maxHeartbeats 2000000 in
set_option maxRecDepth 100000 in
theorem specSort_any (v : Value) (B : Nat) (qs : List Ck) (w : World) (hv : RowCk w B v qs) (hl : qs.length < 20) (hsz : ∀ x ∈ qs, szC x) (hok : allC qs = true) : Calls Tryz.prog 36 #[v] w fun e w' => ∃ u, e = .returned (.tuple #[u, .int .i64 0]) ∧ RowCk w' w.heap.size u (sortB firstB qs) ∧ Below w.heap.size w w' := by
  have hcode : codeL qs = 0 := by unfold codeL; rw [if_neg (by omega), if_pos hok]
  have HV := Lib.hid hv
  obtain ⟨a, cap, rfl, _⟩ := hv
  have HSZ := Lib.hid hsz
  have HCO := Lib.hid hcode
  clear hsz hok hcode
  go_enter Tryz.func36, Tryz.ntmps36
  go_wp2_with (first
    | (go_at_call 110; refine (specAsk_any _ B qs _ HV.out (by omega) HSZ.out).mono ?_; rintro e w1 ⟨rfl, hb⟩; rw [HCO.out]; have B1 := Lib.hid hb; clear hb)
    | (go_at_call 111; refine (specSortL _ B qs _ (HV.out.below B1.out) hl).mono ?_; rintro e w2 ⟨u, rfl, hr, hb⟩; have R2 := Lib.hid hr; have B2 := Lib.hid hb; clear hr hb))
  refine bodyPost_ret (v := .tuple #[u, .int .i64 0]) (by simp [results, Tryz.results36, go_sem]) rfl ?_
  exact ⟨u, rfl, R2.out.more B1.out.size, B1.out.trans (B2.out.mono B1.out.size)⟩
end Go.Proofs.YtpdonghdnaehhaaGreatDoor
