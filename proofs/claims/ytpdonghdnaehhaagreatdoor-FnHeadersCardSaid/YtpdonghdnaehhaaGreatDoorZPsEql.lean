/- A parsed header compared with itself. No condition of its own. -/
import Derived.Test.YtpdonghdnaehhaaGreatDoorZGh
import Derived.Test.YtpdonghdnaehhaaGreatDoorZSetMath
import Derived.Laws.Small
import Derived.ChangeKeysEq
namespace Go.Proofs.YtpdonghdnaehhaaGreatDoor
open Go.ChangeShapes Go.WideShapes Go.ChangeAt Go.WideMaps Go.WideElems Go.RowKit

theorem neq_guard_ps (x y : Operand) (q : Ps) (W : World) : (eqGuard .neq 24 x y (.agg #[.string q.n, .string q.v, .string q.d, .string q.p, .bool q.he, .bool q.ha, .bool q.hp, .int .i64 q.x, .int .i64 q.a, .int .i64 q.s, .bool q.sc, .bool q.ho]) (.agg #[.string q.n, .string q.v, .string q.d, .string q.p, .bool q.he, .bool q.ha, .bool q.hp, .int .i64 q.x, .int .i64 q.a, .int .i64 q.s, .bool q.sc, .bool q.ho])).run Tryz.prog W = .ok () W := by
  have h : Tryz.prog.eqGuardType Tryz.prog.depth 24 = false := by kernel_rfl
  simp only [eqGuard]
  simp [h]
theorem neq_self_ps (q : Ps) (W : World) : (binOp .neq 24 (.agg #[.string q.n, .string q.v, .string q.d, .string q.p, .bool q.he, .bool q.ha, .bool q.hp, .int .i64 q.x, .int .i64 q.a, .int .i64 q.s, .bool q.sc, .bool q.ho]) (.agg #[.string q.n, .string q.v, .string q.d, .string q.p, .bool q.he, .bool q.ha, .bool q.hp, .int .i64 q.x, .int .i64 q.a, .int .i64 q.s, .bool q.sc, .bool q.ho])).run Tryz.prog W = .ok (.bool false) W := by
  have h : Tryz.prog.stoodInHeld 24 = false := by kernel_rfl
  have f1 : ∀ d x y (w : World), (Op.equalIn (d + 1) 9 (.string x) (.string y)).run Tryz.prog w = .ok (x == y) w := fun d x y w => by
    simp [Op.equalIn, run_underlying Tryz.underlying9]
  have f2 : ∀ d x y (w : World), (Op.equalIn (d + 1) 4 (.bool x) (.bool y)).run Tryz.prog w = .ok (x == y) w := fun d x y w => by
    simp [Op.equalIn, run_underlying Tryz.underlying4]
  have f3 : ∀ d x y (w : World), (Op.equalIn (d + 1) 3 (.int .i64 x) (.int .i64 y)).run Tryz.prog w = .ok (x == y) w := fun d x y w => by
    simp [Op.equalIn, run_underlying Tryz.underlying3]
  have e1 : ∀ x y (w : World), (Op.equalIn 9999 9 (.string x) (.string y)).run Tryz.prog w = .ok (x == y) w := fun x y w => f1 9998 x y w
  have e2 : ∀ x y (w : World), (Op.equalIn 9999 4 (.bool x) (.bool y)).run Tryz.prog w = .ok (x == y) w := fun x y w => f2 9998 x y w
  have e3 : ∀ x y (w : World), (Op.equalIn 9999 3 (.int .i64 x) (.int .i64 y)).run Tryz.prog w = .ok (x == y) w := fun x y w => f3 9998 x y w
  have p0 : ∀ w, (part 9 #[.string q.n, .string q.v, .string q.d, .string q.p, .bool q.he, .bool q.ha, .bool q.hp, .int .i64 q.x, .int .i64 q.a, .int .i64 q.s, .bool q.sc, .bool q.ho] 0).run Tryz.prog w = .ok (.string q.n) w := fun w => run_part_plain w (by kernel_rfl) rfl
  have p1 : ∀ w, (part 9 #[.string q.n, .string q.v, .string q.d, .string q.p, .bool q.he, .bool q.ha, .bool q.hp, .int .i64 q.x, .int .i64 q.a, .int .i64 q.s, .bool q.sc, .bool q.ho] 1).run Tryz.prog w = .ok (.string q.v) w := fun w => run_part_plain w (by kernel_rfl) rfl
  have p2 : ∀ w, (part 9 #[.string q.n, .string q.v, .string q.d, .string q.p, .bool q.he, .bool q.ha, .bool q.hp, .int .i64 q.x, .int .i64 q.a, .int .i64 q.s, .bool q.sc, .bool q.ho] 2).run Tryz.prog w = .ok (.string q.d) w := fun w => run_part_plain w (by kernel_rfl) rfl
  have p3 : ∀ w, (part 9 #[.string q.n, .string q.v, .string q.d, .string q.p, .bool q.he, .bool q.ha, .bool q.hp, .int .i64 q.x, .int .i64 q.a, .int .i64 q.s, .bool q.sc, .bool q.ho] 3).run Tryz.prog w = .ok (.string q.p) w := fun w => run_part_plain w (by kernel_rfl) rfl
  have p4 : ∀ w, (part 4 #[.string q.n, .string q.v, .string q.d, .string q.p, .bool q.he, .bool q.ha, .bool q.hp, .int .i64 q.x, .int .i64 q.a, .int .i64 q.s, .bool q.sc, .bool q.ho] 4).run Tryz.prog w = .ok (.bool q.he) w := fun w => run_part_plain w (by kernel_rfl) rfl
  have p5 : ∀ w, (part 4 #[.string q.n, .string q.v, .string q.d, .string q.p, .bool q.he, .bool q.ha, .bool q.hp, .int .i64 q.x, .int .i64 q.a, .int .i64 q.s, .bool q.sc, .bool q.ho] 5).run Tryz.prog w = .ok (.bool q.ha) w := fun w => run_part_plain w (by kernel_rfl) rfl
  have p6 : ∀ w, (part 4 #[.string q.n, .string q.v, .string q.d, .string q.p, .bool q.he, .bool q.ha, .bool q.hp, .int .i64 q.x, .int .i64 q.a, .int .i64 q.s, .bool q.sc, .bool q.ho] 6).run Tryz.prog w = .ok (.bool q.hp) w := fun w => run_part_plain w (by kernel_rfl) rfl
  have p7 : ∀ w, (part 3 #[.string q.n, .string q.v, .string q.d, .string q.p, .bool q.he, .bool q.ha, .bool q.hp, .int .i64 q.x, .int .i64 q.a, .int .i64 q.s, .bool q.sc, .bool q.ho] 7).run Tryz.prog w = .ok (.int .i64 q.x) w := fun w => run_part_plain w (by kernel_rfl) rfl
  have p8 : ∀ w, (part 3 #[.string q.n, .string q.v, .string q.d, .string q.p, .bool q.he, .bool q.ha, .bool q.hp, .int .i64 q.x, .int .i64 q.a, .int .i64 q.s, .bool q.sc, .bool q.ho] 8).run Tryz.prog w = .ok (.int .i64 q.a) w := fun w => run_part_plain w (by kernel_rfl) rfl
  have p9 : ∀ w, (part 3 #[.string q.n, .string q.v, .string q.d, .string q.p, .bool q.he, .bool q.ha, .bool q.hp, .int .i64 q.x, .int .i64 q.a, .int .i64 q.s, .bool q.sc, .bool q.ho] 9).run Tryz.prog w = .ok (.int .i64 q.s) w := fun w => run_part_plain w (by kernel_rfl) rfl
  have p10 : ∀ w, (part 4 #[.string q.n, .string q.v, .string q.d, .string q.p, .bool q.he, .bool q.ha, .bool q.hp, .int .i64 q.x, .int .i64 q.a, .int .i64 q.s, .bool q.sc, .bool q.ho] 10).run Tryz.prog w = .ok (.bool q.sc) w := fun w => run_part_plain w (by kernel_rfl) rfl
  have p11 : ∀ w, (part 4 #[.string q.n, .string q.v, .string q.d, .string q.p, .bool q.he, .bool q.ha, .bool q.hp, .int .i64 q.x, .int .i64 q.a, .int .i64 q.s, .bool q.sc, .bool q.ho] 11).run Tryz.prog w = .ok (.bool q.ho) w := fun w => run_part_plain w (by kernel_rfl) rfl
  have r : ∀ b : ByteArray, (b == b) = true := fun b => by
    show (b.data == b.data) = true
    simp
  simp only [binOp, Op.equal, Op.maxDepth]
  rw [show 10000 = 9998 + 1 + 1 from rfl, Op.equalIn]
  simp [run_underlying Tryz.underlying24, h, e1, e2, e3, r, p0, p1, p2, p3, p4, p5, p6, p7, p8, p9, p10, p11]
end Go.Proofs.YtpdonghdnaehhaaGreatDoor
