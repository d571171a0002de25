/- A law's argument of six numbers, opened; the law's date handed on and compared. No condition of its own. -/
import Derived.Test.YtihlflhgbnfkkaaGreatDoorBase
import Derived.Deep.Fields
namespace Go.Proofs.YtihlflhgbnfkkaaGreatDoor
open Go.ChangeShapes Go.WideShapes Go.ChangeAt Go.WideMaps Go.WideElems Go.RowKit

theorem open_six {H : Type} {enc : TypeId × Value → H} {P : Program} {w : World} {base b0 : Nat} {spare : Nat → Bool} {held : Bool} {r : Reach} {t ti : TypeId} {fs : Array Field} {v : Value} {d : DataW H} {p : List MemPlace}
    (hs : P.underlying t = some (.struct fs)) (hone : Go.Deep.oneCellFields P fs = true) (hC : P.cellsOf t = 6) (hn : fs.size = 6) (hint : fs.all (fun f => f.type == ti) = true) (hi : P.underlying ti = some (.int .i64))
    (hv : Value.okWide P w r b0 t v) (h : DataW.Trod enc P w base spare held t v d p) :
    ∃ x0 x1 x2 x3 x4 x5 : Int, v = .agg #[.int .i64 x0, .int .i64 x1, .int .i64 x2, .int .i64 x3, .int .i64 x4, .int .i64 x5] := by
  obtain ⟨cs, rfl, hsz⟩ := okWide_struct hs hv
  obtain ⟨fuel, hf⟩ := h
  obtain ⟨xs, n, _, _, hlen, hxl, hg⟩ := DataW.trod_struct hs hf
  have key : ∀ j, j < 6 → ∃ x : Int, cs[j]? = some (.int .i64 x) := by
    intro j hj
    have hfj := Array.getElem?_eq_getElem (xs := fs) (i := j) (by omega)
    obtain ⟨ho, hk⟩ := Go.Deep.hone_of hone j _ hfj
    have h1 := hg j _ hfj
    have ht : (fs[j]'(by omega)).type = ti := by
      have := Array.all_eq_true.1 hint j (by omega)
      simpa using this
    rw [ho, hk, ht, List.getElem?_eq_getElem (show j < xs.length by omega)] at h1
    obtain ⟨z, hz, _⟩ := DataW.trod_int hi h1
    refine ⟨z, ?_⟩
    have := congrArg (·[0]?) hz
    simpa [Value.cells, List.getElem?_take, List.getElem?_drop] using this
  obtain ⟨x0, h0⟩ := key 0 (by omega)
  obtain ⟨x1, h1⟩ := key 1 (by omega)
  obtain ⟨x2, h2⟩ := key 2 (by omega)
  obtain ⟨x3, h3⟩ := key 3 (by omega)
  obtain ⟨x4, h4⟩ := key 4 (by omega)
  obtain ⟨x5, h5⟩ := key 5 (by omega)
  refine ⟨x0, x1, x2, x3, x4, x5, ?_⟩
  congr 1
  apply Array.ext_getElem?
  intro i
  match i with
  | 0 => exact h0
  | 1 => exact h1
  | 2 => exact h2
  | 3 => exact h3
  | 4 => exact h4
  | 5 => exact h5
  | i + 6 => rw [Array.getElem?_eq_none (by omega), Array.getElem?_eq_none (by simp)]
end Go.Proofs.YtihlflhgbnfkkaaGreatDoor
