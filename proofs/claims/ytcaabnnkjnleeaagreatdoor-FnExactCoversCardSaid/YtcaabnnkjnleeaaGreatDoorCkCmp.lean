/- The orders of the program: cmp.Compare and cmp.Or, the sending order and the order in which cookies go. No condition of its own. -/
import Derived.Test.YtcaabnnkjnleeaaGreatDoorCkBlk
import Derived.Test.YtcaabnnkjnleeaaGreatDoorQuietTail
import Derived.Test.YtcaabnnkjnleeaaGreatDoorBelowCls
import Derived.BigQuiet
import Derived.Deep.DeepCutAuto
namespace Go.Proofs.YtcaabnnkjnleeaaGreatDoor
open Go.ChangeShapes Go.WideShapes Go.ChangeAt Go.WideMaps Go.WideElems Go.RowKit

def cmpI (x y : Int) : Int := if x < y then -1 else if y < x then 1 else 0
def orL : List Int → Int
  | [] => 0
  | x :: l => if x ≠ 0 then x else orL l
theorem isNaN_any (x : Int) (w : World) : Calls Tryz.prog 196 #[.int .i64 x] w fun e w' => e = .returned (.bool false) ∧ w = w' := by
  have h : (x != x) = false := by simp
  go_enter Tryz.func196, Tryz.ntmps196
  go_wp2_with fail
  go_ret
  exact ⟨rfl, rfl⟩
/-- A row of numbers. -/
def IntsAt (w : World) (B : Nat) (zs : List Int) : Prop := ∀ j (hj : j < zs.length), w.cell? ⟨B, j, none⟩ = some (.int .i64 zs[j])
theorem orL_skip {zs : List Int} {k : Nat} (h : ∀ j (hj : j < zs.length), j < k → zs[j] = 0) (hk : k ≤ zs.length) : orL zs = orL (zs.drop k) := by
  induction k with
  | zero => rfl
  | succ k ih =>
    rw [ih (fun j hj hjk => h j hj (by omega)) (by omega), List.drop_eq_getElem_cons (by omega : k < zs.length), orL, if_neg (by simp [h k (by omega) (by omega)])]
def oneI (a b : Bool) : Int := if a && !b then -1 else if b && !a then 1 else 0
def sendI (a b : Ck) : Int := orL [cmpI b.p.size a.p.size, cmpI a.m b.m, cmpI a.i b.i]
def goI (now : Int) (a b : Ck) : Int := orL [oneI (decide (a.x ≤ now)) (decide (b.x ≤ now)), oneI (!a.sc) (!b.sc), cmpI a.u b.u, cmpI a.i b.i]
theorem ints_new (w : World) (zs : List Int) (t : TypeId) : IntsAt (w.alloc (.cells (zs.map fun z => Value.int .i64 z).toArray t)) w.heap.size zs := by
  intro j hj
  rw [World.cell?_alloc_at _ _ _ _ rfl]
  simp [hj]
theorem two_new (w : World) (a b : Ck) : CkB ((w.alloc (.cells #[.int .i64 a.i, .string a.n, .string a.v, .string a.d, .string a.p, .bool a.ho, .bool a.sc, .bool a.ht, .int .i64 a.s, .int .i64 a.x, .int .i64 a.m, .int .i64 a.u] 26)).alloc (.cells #[.int .i64 b.i, .string b.n, .string b.v, .string b.d, .string b.p, .bool b.ho, .bool b.sc, .bool b.ht, .int .i64 b.s, .int .i64 b.x, .int .i64 b.m, .int .i64 b.u] 26)) (w.heap.size + 1) b := by
  have h := CkB.new (w.alloc (.cells #[.int .i64 a.i, .string a.n, .string a.v, .string a.d, .string a.p, .bool a.ho, .bool a.sc, .bool a.ht, .int .i64 a.s, .int .i64 a.x, .int .i64 a.m, .int .i64 a.u] 26)) b
  rwa [show (w.alloc (.cells #[.int .i64 a.i, .string a.n, .string a.v, .string a.d, .string a.p, .bool a.ho, .bool a.sc, .bool a.ht, .int .i64 a.s, .int .i64 a.x, .int .i64 a.m, .int .i64 a.u] 26)).heap.size = w.heap.size + 1 by simp] at h
end Go.Proofs.YtcaabnnkjnleeaaGreatDoor
