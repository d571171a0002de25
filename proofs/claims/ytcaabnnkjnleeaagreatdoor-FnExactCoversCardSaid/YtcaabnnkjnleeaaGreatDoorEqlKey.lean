/- Two cookies' keys compared: the structs' equality. No condition. -/
import Derived.Test.YtcaabnnkjnleeaaGreatDoorCkBlk
import Derived.Laws.Small
import Derived.ChangeKeysEq
namespace Go.Proofs.YtcaabnnkjnleeaaGreatDoor
open Go.ChangeShapes Go.WideShapes Go.ChangeAt Go.WideMaps Go.WideElems Go.RowKit

theorem eql_guard (x y : Operand) (a b : Ck) (W : World) : (eqGuard .eql 102 x y (.agg #[.string a.n, .string a.d, .string a.p, .bool a.ho]) (.agg #[.string b.n, .string b.d, .string b.p, .bool b.ho])).run Tryz.prog W = .ok () W := by
  have h : Tryz.prog.eqGuardType Tryz.prog.depth 102 = false := by kernel_rfl
  simp only [eqGuard]
  simp [h]
theorem beq_toList (a b : ByteArray) : (a == b) = (a.toList == b.toList) := by
  have e : (a == b) = (a.data == b.data) := rfl
  rw [e]
  by_cases h : a = b
  · subst h
    simp
  · rw [seq_false h, beq_eq_false_iff_ne]
    exact fun hd => h (by cases a; cases b; simp_all)
theorem eql_key (a b : Ck) (W : World) : (binOp .eql 102 (.agg #[.string a.n, .string a.d, .string a.p, .bool a.ho]) (.agg #[.string b.n, .string b.d, .string b.p, .bool b.ho])).run Tryz.prog W = .ok (.bool (keyB a b)) W := by
  have h : Tryz.prog.stoodInHeld 102 = false := by kernel_rfl
  have f1 : ∀ d x y (w : World), (Op.equalIn (d + 1) 9 (.string x) (.string y)).run Tryz.prog w = .ok (x == y) w := fun d x y w => by
    simp [Op.equalIn, run_underlying Tryz.underlying9]
  have f2 : ∀ d x y (w : World), (Op.equalIn (d + 1) 4 (.bool x) (.bool y)).run Tryz.prog w = .ok (x == y) w := fun d x y w => by
    simp [Op.equalIn, run_underlying Tryz.underlying4]
  have e1 : ∀ x y (w : World), (Op.equalIn 9999 9 (.string x) (.string y)).run Tryz.prog w = .ok (x == y) w := fun x y w => f1 9998 x y w
  have e2 : ∀ x y (w : World), (Op.equalIn 9999 4 (.bool x) (.bool y)).run Tryz.prog w = .ok (x == y) w := fun x y w => f2 9998 x y w
  have pn : ∀ (q : Ck) w, (part 9 #[.string q.n, .string q.d, .string q.p, .bool q.ho] 0).run Tryz.prog w = .ok (.string q.n) w := fun q w => run_part_plain w (by kernel_rfl) rfl
  have pd : ∀ (q : Ck) w, (part 9 #[.string q.n, .string q.d, .string q.p, .bool q.ho] 1).run Tryz.prog w = .ok (.string q.d) w := fun q w => run_part_plain w (by kernel_rfl) rfl
  have pp : ∀ (q : Ck) w, (part 9 #[.string q.n, .string q.d, .string q.p, .bool q.ho] 2).run Tryz.prog w = .ok (.string q.p) w := fun q w => run_part_plain w (by kernel_rfl) rfl
  have ph : ∀ (q : Ck) w, (part 4 #[.string q.n, .string q.d, .string q.p, .bool q.ho] 3).run Tryz.prog w = .ok (.bool q.ho) w := fun q w => run_part_plain w (by kernel_rfl) rfl
  simp only [binOp, Op.equal, Op.maxDepth]
  rw [show 10000 = 9998 + 1 + 1 from rfl, Op.equalIn]
  simp [run_underlying Tryz.underlying102, h, e1, e2, pn, pd, pp, ph]
  unfold keyB
  rw [← beq_toList, ← beq_toList, ← beq_toList]
  cases (a.n == b.n) <;> cases (a.d == b.d) <;> cases (a.p == b.p) <;> simp
  by_cases h5 : a.ho = b.ho <;> simp [h5]
end Go.Proofs.YtcaabnnkjnleeaaGreatDoor
