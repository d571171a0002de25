/- A region that draws its order, whose operations read a parsed header's block and whose calls make memory of their own: one walk serves every order. No condition. -/
import Derived.Test.YtihlflhgbnfkkaaDoorPsBlk
import Derived.Deep.QuietTactic
import Derived.BigQuiet
namespace Go.Proofs.YtihlflhgbnfkkaaDoor
open Go.ChangeShapes Go.WideShapes Go.ChangeAt Go.WideMaps Go.WideElems Go.RowKit

/-- A world in which the block still holds the header, and in which nothing that was there before w has turned. -/
def Cls (w : World) (B : Nat) (n v d p : ByteArray) (he ha hp : Bool) (x a s : Int) (sc ho : Bool) : Type := {w' : World // PsB w' B n v d p he ha hp x a s sc ho ∧ Below w.heap.size w w'}
def Cls.w {w : World} {B : Nat} {n v d p : ByteArray} {he ha hp : Bool} {x a s : Int} {sc ho : Bool} (i : Cls w B n v d p he ha hp x a s sc ho) : World := i.1
theorem Cls.ps {w : World} {B : Nat} {n v d p : ByteArray} {he ha hp : Bool} {x a s : Int} {sc ho : Bool} (i : Cls w B n v d p he ha hp x a s sc ho) : PsB i.w B n v d p he ha hp x a s sc ho := i.2.1
theorem Cls.below {w : World} {B : Nat} {n v d p : ByteArray} {he ha hp : Bool} {x a s : Int} {sc ho : Bool} (i : Cls w B n v d p he ha hp x a s sc ho) : Below w.heap.size w i.w := i.2.2
theorem Cls.next {w : World} {B : Nat} {n v d p : ByteArray} {he ha hp : Bool} {x a s : Int} {sc ho : Bool} (i : Cls w B n v d p he ha hp x a s sc ho) {w' : World} (hb : Below i.w.heap.size i.w w') : ∃ j : Cls w B n v d p he ha hp x a s sc ho, w' = j.w :=
  ⟨⟨w', i.ps.stays hb, i.below.trans (hb.mono i.below.size)⟩, rfl⟩
theorem Cls.same {w : World} {B : Nat} {n v d p : ByteArray} {he ha hp : Bool} {x a s : Int} {sc ho : Bool} (i : Cls w B n v d p he ha hp x a s sc ho) {w' : World} (h : i.w = w') : ∃ j : Cls w B n v d p he ha hp x a s sc ho, w' = j.w := ⟨i, h.symm⟩
theorem Cls.start {w wx : World} {B : Nat} {n v d p : ByteArray} {he ha hp : Bool} {x a s : Int} {sc ho : Bool} (hp' : PsB wx B n v d p he ha hp x a s sc ho) (hb : Below w.heap.size w wx) : ∃ j : Cls w B n v d p he ha hp x a s sc ho, { wx with drawn := wx.drawn + 1 } = j.w := ⟨⟨wx.drew, hp', hb.drew⟩, rfl⟩
theorem Cls.full {w wx : World} {B : Nat} {n v d p : ByteArray} {he ha hp : Bool} {x a s : Int} {sc ho : Bool} (hp' : PsB wx B n v d p he ha hp x a s sc ho) (hb : Below w.heap.size w wx) : Nonempty (Cls w B n v d p he ha hp x a s sc ho) := ⟨⟨wx, hp', hb⟩⟩
theorem Cls.at0 (w : World) (B : Nat) (n v d p : ByteArray) (he ha hp : Bool) (x a s : Int) (sc ho : Bool) (i : Cls w B n v d p he ha hp x a s sc ho) : i.w.cell? ⟨B, 0, none⟩ = some (.string n) := (PsB.at i.ps).1
theorem Cls.at1 (w : World) (B : Nat) (n v d p : ByteArray) (he ha hp : Bool) (x a s : Int) (sc ho : Bool) (i : Cls w B n v d p he ha hp x a s sc ho) : i.w.cell? ⟨B, 1, none⟩ = some (.string v) := (PsB.at i.ps).2.1
theorem Cls.at2 (w : World) (B : Nat) (n v d p : ByteArray) (he ha hp : Bool) (x a s : Int) (sc ho : Bool) (i : Cls w B n v d p he ha hp x a s sc ho) : i.w.cell? ⟨B, 2, none⟩ = some (.string d) := (PsB.at i.ps).2.2.1
theorem Cls.at3 (w : World) (B : Nat) (n v d p : ByteArray) (he ha hp : Bool) (x a s : Int) (sc ho : Bool) (i : Cls w B n v d p he ha hp x a s sc ho) : i.w.cell? ⟨B, 3, none⟩ = some (.string p) := (PsB.at i.ps).2.2.2.1
theorem Cls.at4 (w : World) (B : Nat) (n v d p : ByteArray) (he ha hp : Bool) (x a s : Int) (sc ho : Bool) (i : Cls w B n v d p he ha hp x a s sc ho) : i.w.cell? ⟨B, 4, none⟩ = some (.bool he) := (PsB.at i.ps).2.2.2.2.1
theorem Cls.at5 (w : World) (B : Nat) (n v d p : ByteArray) (he ha hp : Bool) (x a s : Int) (sc ho : Bool) (i : Cls w B n v d p he ha hp x a s sc ho) : i.w.cell? ⟨B, 5, none⟩ = some (.bool ha) := (PsB.at i.ps).2.2.2.2.2.1
theorem Cls.at6 (w : World) (B : Nat) (n v d p : ByteArray) (he ha hp : Bool) (x a s : Int) (sc ho : Bool) (i : Cls w B n v d p he ha hp x a s sc ho) : i.w.cell? ⟨B, 6, none⟩ = some (.bool hp) := (PsB.at i.ps).2.2.2.2.2.2.1
theorem Cls.at7 (w : World) (B : Nat) (n v d p : ByteArray) (he ha hp : Bool) (x a s : Int) (sc ho : Bool) (i : Cls w B n v d p he ha hp x a s sc ho) : i.w.cell? ⟨B, 7, none⟩ = some (.int .i64 x) := (PsB.at i.ps).2.2.2.2.2.2.2.1
theorem Cls.at8 (w : World) (B : Nat) (n v d p : ByteArray) (he ha hp : Bool) (x a s : Int) (sc ho : Bool) (i : Cls w B n v d p he ha hp x a s sc ho) : i.w.cell? ⟨B, 8, none⟩ = some (.int .i64 a) := (PsB.at i.ps).2.2.2.2.2.2.2.2.1
theorem Cls.at9 (w : World) (B : Nat) (n v d p : ByteArray) (he ha hp : Bool) (x a s : Int) (sc ho : Bool) (i : Cls w B n v d p he ha hp x a s sc ho) : i.w.cell? ⟨B, 9, none⟩ = some (.int .i64 s) := (PsB.at i.ps).2.2.2.2.2.2.2.2.2.1
theorem Cls.at10 (w : World) (B : Nat) (n v d p : ByteArray) (he ha hp : Bool) (x a s : Int) (sc ho : Bool) (i : Cls w B n v d p he ha hp x a s sc ho) : i.w.cell? ⟨B, 10, none⟩ = some (.bool sc) := (PsB.at i.ps).2.2.2.2.2.2.2.2.2.2.1
theorem Cls.at11 (w : World) (B : Nat) (n v d p : ByteArray) (he ha hp : Bool) (x a s : Int) (sc ho : Bool) (i : Cls w B n v d p he ha hp x a s sc ho) : i.w.cell? ⟨B, 11, none⟩ = some (.bool ho) := (PsB.at i.ps).2.2.2.2.2.2.2.2.2.2.2
theorem wp_region_class {P : Program} {id : Nat} {Q : Exit → Act → World → Prop} {a : Act} {w : World} {l : List Oper} (C : World → Prop) (hm : P.follows .mixedOrders = true) (hB : Region.lexB .any l.toArray = true) (hC : C { w with drawn := w.drawn + 1 })
    (h : wpQuiet P l.toArray C (fun a' => ∀ w', C w' → Q .normal a' w') l a) : (Code.region id l.toArray true).wp P Q a w :=
  wp_region_quiet (C := C) hm hB hC (by simpa using h)
end Go.Proofs.YtihlflhgbnfkkaaDoor
