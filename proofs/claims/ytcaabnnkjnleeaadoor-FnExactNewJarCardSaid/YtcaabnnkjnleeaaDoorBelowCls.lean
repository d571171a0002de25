/- A region that draws its order, whose calls make memory of their own: the class of the worlds in which nothing that was there has turned; one walk serves every order. No condition. -/
import Derived.Test.YtcaabnnkjnleeaaDoorBase
import Derived.Deep.QuietTactic
import Derived.BigQuiet
namespace Go.Proofs.YtcaabnnkjnleeaaDoor
open Go.ChangeShapes Go.WideShapes Go.ChangeAt Go.WideMaps Go.WideElems Go.RowKit

def BCl (w : World) : Type := {w' : World // Below w.heap.size w w'}
def BCl.w {w : World} (i : BCl w) : World := i.1
theorem BCl.below {w : World} (i : BCl w) : Below w.heap.size w i.w := i.2
theorem BCl.next {w : World} (i : BCl w) {w' : World} (hb : Below i.w.heap.size i.w w') : ∃ j : BCl w, w' = j.w := ⟨⟨w', i.below.trans (hb.mono i.below.size)⟩, rfl⟩
theorem BCl.same {w : World} (i : BCl w) {w' : World} (h : i.w = w') : ∃ j : BCl w, w' = j.w := ⟨i, h.symm⟩
theorem BCl.start (w : World) : ∃ j : BCl w, { w with drawn := w.drawn + 1 } = j.w := ⟨⟨w.drew, (Below.refl _ _).drew⟩, rfl⟩
theorem BCl.full (w : World) : Nonempty (BCl w) := ⟨⟨w, Below.refl _ _⟩⟩
theorem BCl.cell {w : World} {a : Addr} {v : Value} (h : w.cell? a = some v) (i : BCl w) : i.w.cell? a = some v := cell_kept i.below h
theorem wp_region_below {P : Program} {id : Nat} {Q : Exit → Act → World → Prop} {a : Act} {w : World} {l : List Oper} (C : World → Prop) (hm : P.follows .mixedOrders = true) (hB : Region.lexB .any l.toArray = true) (hC : C { w with drawn := w.drawn + 1 })
    (h : wpQuiet P l.toArray C (fun a' => ∀ w', C w' → Q .normal a' w') l a) : (Code.region id l.toArray true).wp P Q a w :=
  wp_region_quiet (C := C) hm hB hC (by simpa using h)
end Go.Proofs.YtcaabnnkjnleeaaDoor
