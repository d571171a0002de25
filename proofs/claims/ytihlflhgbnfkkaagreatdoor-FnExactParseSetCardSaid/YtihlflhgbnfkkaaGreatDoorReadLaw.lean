/- ReadDate of the model whole; the walk of the law on ReadDate. No condition of its own. -/
import Derived.Test.YtihlflhgbnfkkaaGreatDoorSpecRead
import Derived.Test.YtihlflhgbnfkkaaGreatDoorDateArg
import Derived.Shelf.LaysM
import Derived.Stop.LaidErr
namespace Go.Proofs.YtihlflhgbnfkkaaGreatDoor
open Go.ChangeShapes Go.WideShapes Go.ChangeAt Go.WideMaps Go.WideElems Go.RowKit

theorem max_is {W : World} (h : W.ShapedOpen Tryz.prog) : MaxIs W :=
  Go.Proofs.cell_of_shapedOpen_int (zero := #[.int .i64 0]) (t := 3) h (of_decide_eq_true (by kernel_rfl)) (by kernel_rfl) rfl (by kernel_rfl) (by kernel_rfl) Tryz.underlying3
theorem gMonths : Tryz.prog.globalNamed "loop.example/g00803/impl.monthNames" = some 2 := by kernel_rfl
theorem tMonths : (Tryz.prog.globals[2]?).map (·.type) = some 118 := by kernel_rfl
theorem row_texts {P : Program} {w : World} {name : String} {zs : List (List UInt8)} {g : Nat} (hg : P.globalNamed name = some g) (h : TextsAt P w name zs) : ∃ t fr, w.heap[g]? = some (.cells (zs.map fun z => Value.string ⟨z.toArray⟩).toArray t fr) := by
  unfold TextsAt World.var? at h
  rw [hg, Option.bind_some] at h
  split at h
  · rename_i cs t fr hh
    cases h
    exact ⟨t, fr, hh⟩
  · cases h
theorem months_laid {W : World} {rest : List (String × DataW Unit)} (h : laidMet Tryz.prog (("loop.example/g00803/impl.monthNames", Rows.laid_loop_example_g00803_impl_monthNames) :: rest) W) : MonthsAt W :=
  row_texts gMonths (texts_of_head (zs := names) (rest := rest) gMonths tMonths Tryz.underlying118 Tryz.underlying9 (by kernel_rfl) (by kernel_rfl) h)
end Go.Proofs.YtihlflhgbnfkkaaGreatDoor
