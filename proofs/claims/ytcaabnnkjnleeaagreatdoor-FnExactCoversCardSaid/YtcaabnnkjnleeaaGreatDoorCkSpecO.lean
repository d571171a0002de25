/- SameKey, ComesFirst, GoesFirst of the model: what they answer. No condition of its own. -/
import Derived.Test.YtcaabnnkjnleeaaGreatDoorCkOrders
namespace Go.Proofs.YtcaabnnkjnleeaaGreatDoor
open Go.ChangeShapes Go.WideShapes Go.ChangeAt Go.WideMaps Go.WideElems Go.RowKit

set_option maxRecDepth 100000 in
theorem specKeyL (a b : Ck) (w : World) : Calls Tryz.prog 122 #[.agg #[.int .i64 a.i, .string a.n, .string a.v, .string a.d, .string a.p, .bool a.ho, .bool a.sc, .bool a.ht, .int .i64 a.s, .int .i64 a.x, .int .i64 a.m, .int .i64 a.u], .agg #[.int .i64 b.i, .string b.n, .string b.v, .string b.d, .string b.p, .bool b.ho, .bool b.sc, .bool b.ht, .int .i64 b.s, .int .i64 b.x, .int .i64 b.m, .int .i64 b.u]] w fun e w' => e = .returned (.bool (keyB a b)) ∧ Below w.heap.size w w' := by
  have B0 : Hid (Below w.heap.size w ((w.alloc (.cells #[.int .i64 a.i, .string a.n, .string a.v, .string a.d, .string a.p, .bool a.ho, .bool a.sc, .bool a.ht, .int .i64 a.s, .int .i64 a.x, .int .i64 a.m, .int .i64 a.u] 26)).alloc (.cells #[.int .i64 b.i, .string b.n, .string b.v, .string b.d, .string b.p, .bool b.ho, .bool b.sc, .bool b.ht, .int .i64 b.s, .int .i64 b.x, .int .i64 b.m, .int .i64 b.u] 26))) := Lib.hid (((Below.refl _ _).alloc (Nat.le_refl _) _).alloc (by simp) _)
  have P0 := Lib.hid ((CkB.new w a).alloc (.cells #[.int .i64 b.i, .string b.n, .string b.v, .string b.d, .string b.p, .bool b.ho, .bool b.sc, .bool b.ht, .int .i64 b.s, .int .i64 b.x, .int .i64 b.m, .int .i64 b.u] 26))
  have Q0 := Lib.hid (two_new w a b)
  obtain ⟨c0, c1, c2, c3, c4, c5, c6, c7, c8, c9, c10, c11⟩ := P0.out.at
  obtain ⟨d0, d1, d2, d3, d4, d5, d6, d7, d8, d9, d10, d11⟩ := Q0.out.at
  cases g0 : (a.n.toList == b.n.toList) with
  | false =>
    have HE : Hid (keyB a b = false) := Lib.hid (by unfold keyB; rw [g0]; rfl)
    go_enter Tryz.func122, Tryz.ntmps122
    go_wp2_with fail
    go_ret
    exact ⟨bool_end HE.out.symm, B0.out⟩
  | true =>
    have G0 := Lib.hid g0
    cases g1 : (a.d.toList == b.d.toList) with
    | false =>
      have HE : Hid (keyB a b = false) := Lib.hid (by unfold keyB; rw [G0.out, g1]; rfl)
      go_enter Tryz.func122, Tryz.ntmps122
      go_wp2_with fail
      go_ret
      exact ⟨bool_end HE.out.symm, B0.out⟩
    | true =>
      have G1 := Lib.hid g1
      cases g2 : (a.p.toList == b.p.toList) with
      | false =>
        have HE : Hid (keyB a b = false) := Lib.hid (by unfold keyB; rw [G0.out, G1.out, g2]; rfl)
        go_enter Tryz.func122, Tryz.ntmps122
        go_wp2_with fail
        go_ret
        exact ⟨bool_end HE.out.symm, B0.out⟩
      | true =>
        have G2 := Lib.hid g2
        have HE : Hid (keyB a b = (a.ho == b.ho)) := Lib.hid (by unfold keyB; rw [G0.out, G1.out, G2.out]; rfl)
        go_enter Tryz.func122, Tryz.ntmps122
        go_wp2_with fail
        go_ret
        exact ⟨bool_end (by rw [HE.out]), B0.out⟩
end Go.Proofs.YtcaabnnkjnleeaaGreatDoor
