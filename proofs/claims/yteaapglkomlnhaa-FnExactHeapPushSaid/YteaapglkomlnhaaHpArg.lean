/- A slot that came in. No condition of its own. -/
import Derived.Test.YteaapglkomlnhaaHpIn
namespace Go.Proofs.Yteaapglkomlnhaa
open Go.ChangeShapes Go.WideShapes Go.ChangeAt Go.WideMaps Go.WideElems Go.RowKit

theorem open_slot {H : Type} {enc : TypeId × Value → H} {P : Program} {w : World} {base b0 : Nat} {spare : Nat → Bool} {held : Bool} {r : Reach} {t ti : TypeId} {fs : Array Field} {v : Value} {d : DataW H} {p : List MemPlace}
    (hs : P.underlying t = some (.struct fs)) (hone : Go.Deep.oneCellFields P fs = true) (hC : P.cellsOf t = 2) (hn : fs.size = 2) (hty : fs.toList.map (·.type) = [ti, ti])
    (hI : P.underlying ti = some (.int .i64))
    (hv : Value.okWide P w r b0 t v) (h : DataW.Trod enc P w base spare held t v d p) : ∃ q : Sl, v = .agg #[.int .i64 q.k, .int .i64 q.i] := by
  obtain ⟨cs, rfl, hsz⟩ := okWide_struct hs hv
  obtain ⟨fuel, hf⟩ := h
  obtain ⟨q, hq⟩ := slot_of (cs := cs.toList) hs hone hn hty hI (by rw [← hC]; simpa using hsz) (by simpa [Value.cells] using hf)
  refine ⟨q, ?_⟩
  rw [← Array.toArray_toList (xs := cs), hq]
end Go.Proofs.Yteaapglkomlnhaa
