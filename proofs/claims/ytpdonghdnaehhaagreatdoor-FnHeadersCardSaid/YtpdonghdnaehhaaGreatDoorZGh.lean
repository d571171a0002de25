/- A law's argument of a parsed header, opened; the law's header handed on, counted and compared. No condition of its own. -/
import Derived.Test.YtpdonghdnaehhaaGreatDoorBase
import Derived.Deep.Fields
import Derived.Deep.QuietTactic
import Derived.BigQuiet
namespace Go.Proofs.YtpdonghdnaehhaaGreatDoor
open Go.ChangeShapes Go.WideShapes Go.ChangeAt Go.WideMaps Go.WideElems Go.RowKit

/-- The value of a parsed header. -/
def parsV (n v d p : ByteArray) (he ha hp : Bool) (x a s : Int) (sc ho : Bool) : Value := .agg #[.string n, .string v, .string d, .string p, .bool he, .bool ha, .bool hp, .int .i64 x, .int .i64 a, .int .i64 s, .bool sc, .bool ho]
theorem open_parsed {H : Type} {enc : TypeId × Value → H} {P : Program} {w : World} {base b0 : Nat} {spare : Nat → Bool} {held : Bool} {r : Reach} {t ts tb ti : TypeId} {fs : Array Field} {v : Value} {d : DataW H} {p : List MemPlace}
    (hs : P.underlying t = some (.struct fs)) (hone : Go.Deep.oneCellFields P fs = true) (hC : P.cellsOf t = 12) (hn : fs.size = 12) (hty : fs.toList.map (·.type) = [ts, ts, ts, ts, tb, tb, tb, ti, ti, ti, tb, tb])
    (hS : P.underlying ts = some .string) (hB : P.underlying tb = some .bool) (hI : P.underlying ti = some (.int .i64))
    (hv : Value.okWide P w r b0 t v) (h : DataW.Trod enc P w base spare held t v d p) :
    ∃ (x0 x1 x2 x3 : ByteArray) (x4 x5 x6 : Bool) (x7 x8 x9 : Int) (x10 x11 : Bool), v = .agg #[.string x0, .string x1, .string x2, .string x3, .bool x4, .bool x5, .bool x6, .int .i64 x7, .int .i64 x8, .int .i64 x9, .bool x10, .bool x11] ∧ x0.size ≤ maxLen ∧ x1.size ≤ maxLen ∧ x2.size ≤ maxLen ∧ x3.size ≤ maxLen := by
  obtain ⟨cs, rfl, hsz⟩ := okWide_struct hs hv
  obtain ⟨fuel, hf⟩ := h
  obtain ⟨xs, m, _, _, hlen, hxl, hg⟩ := DataW.trod_struct hs hf
  have at_ : ∀ j, j < 12 → ∃ (fuel' : Nat) (z : DataW H × List MemPlace) (c : List Value), DataW.trod enc P w base spare held fuel' ([ts, ts, ts, ts, tb, tb, tb, ti, ti, ti, tb, tb].getD j 0) c = some z ∧ ∀ u, c = [u] → cs[j]? = some u := by
    intro j hj
    have hfj := Array.getElem?_eq_getElem (xs := fs) (i := j) (by omega)
    obtain ⟨ho, hk⟩ := Go.Deep.hone_of hone j _ hfj
    have h1 := hg j _ hfj
    have ht : (fs[j]'(by omega)).type = [ts, ts, ts, ts, tb, tb, tb, ti, ti, ti, tb, tb].getD j 0 := by
      rw [← hty, List.getD_eq_getElem?_getD, List.getElem?_map, Array.getElem?_toList, hfj]
      rfl
    rw [ho, hk, List.getElem?_eq_getElem (show j < xs.length by omega)] at h1
    rw [ht] at h1
    refine ⟨_, _, _, h1, fun u hu => ?_⟩
    have := congrArg (·[0]?) hu
    simpa [Value.cells, List.getElem?_take, List.getElem?_drop] using this
  have str : ∀ j, j < 12 → [ts, ts, ts, ts, tb, tb, tb, ti, ti, ti, tb, tb].getD j 0 = ts → ∃ u : ByteArray, cs[j]? = some (.string u) ∧ u.size ≤ maxLen := by
    intro j hj ht
    obtain ⟨f, z, c, h1, h2⟩ := at_ j hj
    rw [ht] at h1
    obtain ⟨u, hu, _, hm⟩ := DataW.trod_string hS h1
    exact ⟨u, h2 _ hu, hm⟩
  have boo : ∀ j, j < 12 → [ts, ts, ts, ts, tb, tb, tb, ti, ti, ti, tb, tb].getD j 0 = tb → ∃ u : Bool, cs[j]? = some (.bool u) := by
    intro j hj ht
    obtain ⟨f, z, c, h1, h2⟩ := at_ j hj
    rw [ht] at h1
    obtain ⟨u, hu, _⟩ := DataW.trod_bool hB h1
    exact ⟨u, h2 _ hu⟩
  have int : ∀ j, j < 12 → [ts, ts, ts, ts, tb, tb, tb, ti, ti, ti, tb, tb].getD j 0 = ti → ∃ u : Int, cs[j]? = some (.int .i64 u) := by
    intro j hj ht
    obtain ⟨f, z, c, h1, h2⟩ := at_ j hj
    rw [ht] at h1
    obtain ⟨u, hu, _⟩ := DataW.trod_int hI h1
    exact ⟨u, h2 _ hu⟩
  obtain ⟨x0, h0, m0⟩ := str 0 (by omega) rfl
  obtain ⟨x1, h1, m1⟩ := str 1 (by omega) rfl
  obtain ⟨x2, h2, m2⟩ := str 2 (by omega) rfl
  obtain ⟨x3, h3, m3⟩ := str 3 (by omega) rfl
  obtain ⟨x4, h4⟩ := boo 4 (by omega) rfl
  obtain ⟨x5, h5⟩ := boo 5 (by omega) rfl
  obtain ⟨x6, h6⟩ := boo 6 (by omega) rfl
  obtain ⟨x7, h7⟩ := int 7 (by omega) rfl
  obtain ⟨x8, h8⟩ := int 8 (by omega) rfl
  obtain ⟨x9, h9⟩ := int 9 (by omega) rfl
  obtain ⟨x10, h10⟩ := boo 10 (by omega) rfl
  obtain ⟨x11, h11⟩ := boo 11 (by omega) rfl
  refine ⟨x0, x1, x2, x3, x4, x5, x6, x7, x8, x9, x10, x11, ?_, m0, m1, m2, m3⟩
  congr 1
  apply Array.ext_getElem?
  intro i
  match i with
  | 0 => exact h0
  | 1 => exact h1
  | 2 => exact h2
  | 3 => exact h3
  | 4 => exact h4
  | 5 => exact h5
  | 6 => exact h6
  | 7 => exact h7
  | 8 => exact h8
  | 9 => exact h9
  | 10 => exact h10
  | 11 => exact h11
  | i + 12 => rw [Array.getElem?_eq_none (by omega), Array.getElem?_eq_none (by simp)]
end Go.Proofs.YtpdonghdnaehhaaGreatDoor

namespace Go.Proofs.YtpdonghdnaehhaaGreatDoor
open Go.ChangeShapes Go.WideShapes Go.ChangeAt Go.WideMaps Go.WideElems Go.RowKit

def PsB (w : World) (B : Nat) (n v d p : ByteArray) (he ha hp : Bool) (x a s : Int) (sc ho : Bool) : Prop := w.heap[B]? = some (.cells #[.string n, .string v, .string d, .string p, .bool he, .bool ha, .bool hp, .int .i64 x, .int .i64 a, .int .i64 s, .bool sc, .bool ho] 24 (0, 0))
theorem PsB.at {w : World} {B : Nat} {n v d p : ByteArray} {he ha hp : Bool} {x a s : Int} {sc ho : Bool} (hb : PsB w B n v d p he ha hp x a s sc ho) : w.cell? ⟨B, 0, none⟩ = some (.string n) ∧ w.cell? ⟨B, 1, none⟩ = some (.string v) ∧ w.cell? ⟨B, 2, none⟩ = some (.string d) ∧ w.cell? ⟨B, 3, none⟩ = some (.string p) ∧ w.cell? ⟨B, 4, none⟩ = some (.bool he) ∧ w.cell? ⟨B, 5, none⟩ = some (.bool ha) ∧ w.cell? ⟨B, 6, none⟩ = some (.bool hp) ∧ w.cell? ⟨B, 7, none⟩ = some (.int .i64 x) ∧ w.cell? ⟨B, 8, none⟩ = some (.int .i64 a) ∧ w.cell? ⟨B, 9, none⟩ = some (.int .i64 s) ∧ w.cell? ⟨B, 10, none⟩ = some (.bool sc) ∧ w.cell? ⟨B, 11, none⟩ = some (.bool ho) := by
  refine ⟨?_, ?_, ?_, ?_, ?_, ?_, ?_, ?_, ?_, ?_, ?_, ?_⟩ <;> simp [World.cell?, show w.heap[B]? = _ from hb]
theorem PsB.free {w : World} {B : Nat} {n v d p : ByteArray} {he ha hp : Bool} {x a s : Int} {sc ho : Bool} (hb : PsB w B n v d p he ha hp x a s sc ho) (i : Nat) : w.frozen? ⟨B, i, none⟩ = false := by
  simp [World.frozen?, show w.heap[B]? = _ from hb]
theorem PsB.lt {w : World} {B : Nat} {n v d p : ByteArray} {he ha hp : Bool} {x a s : Int} {sc ho : Bool} (hb : PsB w B n v d p he ha hp x a s sc ho) : B < w.heap.size := (Array.getElem?_eq_some_iff.1 hb).1
theorem PsB.new (w : World) (n v d p : ByteArray) (he ha hp : Bool) (x a s : Int) (sc ho : Bool) : PsB (w.alloc (.cells #[.string n, .string v, .string d, .string p, .bool he, .bool ha, .bool hp, .int .i64 x, .int .i64 a, .int .i64 s, .bool sc, .bool ho] 24)) w.heap.size n v d p he ha hp x a s sc ho := heap_alloc_new w _
theorem PsB.stays {w w' : World} {B : Nat} {n v d p : ByteArray} {he ha hp : Bool} {x a s : Int} {sc ho : Bool} (hp' : PsB w B n v d p he ha hp x a s sc ho) (hb : Below w.heap.size w w') : PsB w' B n v d p he ha hp x a s sc ho := (hb.block B hp'.lt).trans hp'
theorem PsB.alloc {w : World} {B : Nat} {n v d p : ByteArray} {he ha hp : Bool} {x a s : Int} {sc ho : Bool} (hb : PsB w B n v d p he ha hp x a s sc ho) (o : Obj) : PsB (w.alloc o) B n v d p he ha hp x a s sc ho := (Below.heap_alloc _ _ _ hb.lt).trans hb
theorem PsB.other {w : World} {B B' i : Nat} {u : Value} {n v d p : ByteArray} {he ha hp : Bool} {x a s : Int} {sc ho : Bool} (hb : PsB w B n v d p he ha hp x a s sc ho) (hne : B' ≠ B) : PsB (w.setCell ⟨B', i, none⟩ u) B n v d p he ha hp x a s sc ho := (Below.heap_setCell _ _ _ _ (by show B ≠ B'; exact Ne.symm hne)).trans hb
theorem PsB.grown {w w' : World} {B C : Nat} {n v d p : ByteArray} {he ha hp : Bool} {x a s : Int} {sc ho : Bool} (hb : PsB w B n v d p he ha hp x a s sc ho) (hg : w.grownBy w' (some C)) (hne : B ≠ C) : PsB w' B n v d p he ha hp x a s sc ho := (hg.block B hb.lt (by simpa using hne)).trans hb
theorem heap_put {w : World} {b : Nat} {cs : Array Value} {t : TypeId} {fr : Nat × Nat} (h : w.heap[b]? = some (.cells cs t fr)) (i : Nat) (u : Value) : (w.setCell ⟨b, i, none⟩ u).heap[b]? = some (.cells (cs.setIfInBounds i u) t fr) := by
  simp only [World.setCell, Array.getElem?_modify, if_true, h]
  rfl
theorem PsB.set0 {w : World} {B : Nat} {n v d p : ByteArray} {he ha hp : Bool} {x a s : Int} {sc ho : Bool} (hb : PsB w B n v d p he ha hp x a s sc ho) (y : ByteArray) : PsB (w.setCell ⟨B, 0, none⟩ (.string y)) B y v d p he ha hp x a s sc ho := heap_put hb 0 _
theorem PsB.set1 {w : World} {B : Nat} {n v d p : ByteArray} {he ha hp : Bool} {x a s : Int} {sc ho : Bool} (hb : PsB w B n v d p he ha hp x a s sc ho) (y : ByteArray) : PsB (w.setCell ⟨B, 1, none⟩ (.string y)) B n y d p he ha hp x a s sc ho := heap_put hb 1 _
theorem PsB.set2 {w : World} {B : Nat} {n v d p : ByteArray} {he ha hp : Bool} {x a s : Int} {sc ho : Bool} (hb : PsB w B n v d p he ha hp x a s sc ho) (y : ByteArray) : PsB (w.setCell ⟨B, 2, none⟩ (.string y)) B n v y p he ha hp x a s sc ho := heap_put hb 2 _
theorem PsB.set3 {w : World} {B : Nat} {n v d p : ByteArray} {he ha hp : Bool} {x a s : Int} {sc ho : Bool} (hb : PsB w B n v d p he ha hp x a s sc ho) (y : ByteArray) : PsB (w.setCell ⟨B, 3, none⟩ (.string y)) B n v d y he ha hp x a s sc ho := heap_put hb 3 _
theorem PsB.set4 {w : World} {B : Nat} {n v d p : ByteArray} {he ha hp : Bool} {x a s : Int} {sc ho : Bool} (hb : PsB w B n v d p he ha hp x a s sc ho) (y : Bool) : PsB (w.setCell ⟨B, 4, none⟩ (.bool y)) B n v d p y ha hp x a s sc ho := heap_put hb 4 _
theorem PsB.set5 {w : World} {B : Nat} {n v d p : ByteArray} {he ha hp : Bool} {x a s : Int} {sc ho : Bool} (hb : PsB w B n v d p he ha hp x a s sc ho) (y : Bool) : PsB (w.setCell ⟨B, 5, none⟩ (.bool y)) B n v d p he y hp x a s sc ho := heap_put hb 5 _
theorem PsB.set6 {w : World} {B : Nat} {n v d p : ByteArray} {he ha hp : Bool} {x a s : Int} {sc ho : Bool} (hb : PsB w B n v d p he ha hp x a s sc ho) (y : Bool) : PsB (w.setCell ⟨B, 6, none⟩ (.bool y)) B n v d p he ha y x a s sc ho := heap_put hb 6 _
theorem PsB.set7 {w : World} {B : Nat} {n v d p : ByteArray} {he ha hp : Bool} {x a s : Int} {sc ho : Bool} (hb : PsB w B n v d p he ha hp x a s sc ho) (y : Int) : PsB (w.setCell ⟨B, 7, none⟩ (.int .i64 y)) B n v d p he ha hp y a s sc ho := heap_put hb 7 _
theorem PsB.set8 {w : World} {B : Nat} {n v d p : ByteArray} {he ha hp : Bool} {x a s : Int} {sc ho : Bool} (hb : PsB w B n v d p he ha hp x a s sc ho) (y : Int) : PsB (w.setCell ⟨B, 8, none⟩ (.int .i64 y)) B n v d p he ha hp x y s sc ho := heap_put hb 8 _
theorem PsB.set9 {w : World} {B : Nat} {n v d p : ByteArray} {he ha hp : Bool} {x a s : Int} {sc ho : Bool} (hb : PsB w B n v d p he ha hp x a s sc ho) (y : Int) : PsB (w.setCell ⟨B, 9, none⟩ (.int .i64 y)) B n v d p he ha hp x a y sc ho := heap_put hb 9 _
theorem PsB.set10 {w : World} {B : Nat} {n v d p : ByteArray} {he ha hp : Bool} {x a s : Int} {sc ho : Bool} (hb : PsB w B n v d p he ha hp x a s sc ho) (y : Bool) : PsB (w.setCell ⟨B, 10, none⟩ (.bool y)) B n v d p he ha hp x a s y ho := heap_put hb 10 _
theorem PsB.set11 {w : World} {B : Nat} {n v d p : ByteArray} {he ha hp : Bool} {x a s : Int} {sc ho : Bool} (hb : PsB w B n v d p he ha hp x a s sc ho) (y : Bool) : PsB (w.setCell ⟨B, 11, none⟩ (.bool y)) B n v d p he ha hp x a s sc y := heap_put hb 11 _
end Go.Proofs.YtpdonghdnaehhaaGreatDoor

namespace Go.Proofs.YtpdonghdnaehhaaGreatDoor
open Go.ChangeShapes Go.WideShapes Go.ChangeAt Go.WideMaps Go.WideElems Go.RowKit

theorem open_six {H : Type} {enc : TypeId × Value → H} {P : Program} {w : World} {base b0 : Nat} {spare : Nat → Bool} {held : Bool} {r : Reach} {t ti : TypeId} {fs : Array Field} {v : Value} {d : DataW H} {p : List MemPlace}
    (hs : P.underlying t = some (.struct fs)) (hone : Go.Deep.oneCellFields P fs = true) (hC : P.cellsOf t = 6) (hn : fs.size = 6) (hint : fs.all (fun f => f.type == ti) = true) (hi : P.underlying ti = some (.int .i64))
    (hv : Value.okWide P w r b0 t v) (h : DataW.Trod enc P w base spare held t v d p) :
    ∃ x0 x1 x2 x3 x4 x5 : Int, v = .agg #[.int .i64 x0, .int .i64 x1, .int .i64 x2, .int .i64 x3, .int .i64 x4, .int .i64 x5] := by
  obtain ⟨cs, rfl, hsz⟩ := okWide_struct hs hv
  obtain ⟨fuel, hf⟩ := h
  obtain ⟨xs, n, _, _, hlen, hxl, hg⟩ := DataW.trod_struct hs hf
  have key : ∀ j, j < 6 → ∃ x : Int, cs[j]? = some (.int .i64 x) := by
    intro j hj
    have hfj := Array.getElem?_eq_getElem (xs := fs) (i := j) (by omega)
    obtain ⟨ho, hk⟩ := Go.Deep.hone_of hone j _ hfj
    have h1 := hg j _ hfj
    have ht : (fs[j]'(by omega)).type = ti := by
      have := Array.all_eq_true.1 hint j (by omega)
      simpa using this
    rw [ho, hk, ht, List.getElem?_eq_getElem (show j < xs.length by omega)] at h1
    obtain ⟨z, hz, _⟩ := DataW.trod_int hi h1
    refine ⟨z, ?_⟩
    have := congrArg (·[0]?) hz
    simpa [Value.cells, List.getElem?_take, List.getElem?_drop] using this
  obtain ⟨x0, h0⟩ := key 0 (by omega)
  obtain ⟨x1, h1⟩ := key 1 (by omega)
  obtain ⟨x2, h2⟩ := key 2 (by omega)
  obtain ⟨x3, h3⟩ := key 3 (by omega)
  obtain ⟨x4, h4⟩ := key 4 (by omega)
  obtain ⟨x5, h5⟩ := key 5 (by omega)
  refine ⟨x0, x1, x2, x3, x4, x5, ?_⟩
  congr 1
  apply Array.ext_getElem?
  intro i
  match i with
  | 0 => exact h0
  | 1 => exact h1
  | 2 => exact h2
  | 3 => exact h3
  | 4 => exact h4
  | 5 => exact h5
  | i + 6 => rw [Array.getElem?_eq_none (by omega), Array.getElem?_eq_none (by simp)]
end Go.Proofs.YtpdonghdnaehhaaGreatDoor

namespace Go.Proofs.YtpdonghdnaehhaaGreatDoor
open Go.ChangeShapes Go.WideShapes Go.ChangeAt Go.WideMaps Go.WideElems Go.RowKit

/-- A world in which the block still holds the header, and in which nothing that was there before w has turned. -/
def Cls (w : World) (B : Nat) (n v d p : ByteArray) (he ha hp : Bool) (x a s : Int) (sc ho : Bool) : Type := {w' : World // PsB w' B n v d p he ha hp x a s sc ho ∧ Below w.heap.size w w'}
def Cls.w {w : World} {B : Nat} {n v d p : ByteArray} {he ha hp : Bool} {x a s : Int} {sc ho : Bool} (i : Cls w B n v d p he ha hp x a s sc ho) : World := i.1
theorem Cls.ps {w : World} {B : Nat} {n v d p : ByteArray} {he ha hp : Bool} {x a s : Int} {sc ho : Bool} (i : Cls w B n v d p he ha hp x a s sc ho) : PsB i.w B n v d p he ha hp x a s sc ho := i.2.1
theorem Cls.below {w : World} {B : Nat} {n v d p : ByteArray} {he ha hp : Bool} {x a s : Int} {sc ho : Bool} (i : Cls w B n v d p he ha hp x a s sc ho) : Below w.heap.size w i.w := i.2.2
theorem Cls.next {w : World} {B : Nat} {n v d p : ByteArray} {he ha hp : Bool} {x a s : Int} {sc ho : Bool} (i : Cls w B n v d p he ha hp x a s sc ho) {w' : World} (hb : Below i.w.heap.size i.w w') : ∃ j : Cls w B n v d p he ha hp x a s sc ho, w' = j.w :=
  ⟨⟨w', i.ps.stays hb, i.below.trans (hb.mono i.below.size)⟩, rfl⟩
theorem Cls.same {w : World} {B : Nat} {n v d p : ByteArray} {he ha hp : Bool} {x a s : Int} {sc ho : Bool} (i : Cls w B n v d p he ha hp x a s sc ho) {w' : World} (h : i.w = w') : ∃ j : Cls w B n v d p he ha hp x a s sc ho, w' = j.w := ⟨i, h.symm⟩
theorem Cls.start {w wx : World} {B : Nat} {n v d p : ByteArray} {he ha hp : Bool} {x a s : Int} {sc ho : Bool} (hp' : PsB wx B n v d p he ha hp x a s sc ho) (hb : Below w.heap.size w wx) : ∃ j : Cls w B n v d p he ha hp x a s sc ho, { wx with drawn := wx.drawn + 1 } = j.w := ⟨⟨wx.drew, hp', hb.drew⟩, rfl⟩
theorem Cls.full {w wx : World} {B : Nat} {n v d p : ByteArray} {he ha hp : Bool} {x a s : Int} {sc ho : Bool} (hp' : PsB wx B n v d p he ha hp x a s sc ho) (hb : Below w.heap.size w wx) : Nonempty (Cls w B n v d p he ha hp x a s sc ho) := ⟨⟨wx, hp', hb⟩⟩
theorem Cls.at0 (w : World) (B : Nat) (n v d p : ByteArray) (he ha hp : Bool) (x a s : Int) (sc ho : Bool) (i : Cls w B n v d p he ha hp x a s sc ho) : i.w.cell? ⟨B, 0, none⟩ = some (.string n) := (PsB.at i.ps).1
theorem Cls.at1 (w : World) (B : Nat) (n v d p : ByteArray) (he ha hp : Bool) (x a s : Int) (sc ho : Bool) (i : Cls w B n v d p he ha hp x a s sc ho) : i.w.cell? ⟨B, 1, none⟩ = some (.string v) := (PsB.at i.ps).2.1
theorem Cls.at2 (w : World) (B : Nat) (n v d p : ByteArray) (he ha hp : Bool) (x a s : Int) (sc ho : Bool) (i : Cls w B n v d p he ha hp x a s sc ho) : i.w.cell? ⟨B, 2, none⟩ = some (.string d) := (PsB.at i.ps).2.2.1
theorem Cls.at3 (w : World) (B : Nat) (n v d p : ByteArray) (he ha hp : Bool) (x a s : Int) (sc ho : Bool) (i : Cls w B n v d p he ha hp x a s sc ho) : i.w.cell? ⟨B, 3, none⟩ = some (.string p) := (PsB.at i.ps).2.2.2.1
theorem Cls.at4 (w : World) (B : Nat) (n v d p : ByteArray) (he ha hp : Bool) (x a s : Int) (sc ho : Bool) (i : Cls w B n v d p he ha hp x a s sc ho) : i.w.cell? ⟨B, 4, none⟩ = some (.bool he) := (PsB.at i.ps).2.2.2.2.1
theorem Cls.at5 (w : World) (B : Nat) (n v d p : ByteArray) (he ha hp : Bool) (x a s : Int) (sc ho : Bool) (i : Cls w B n v d p he ha hp x a s sc ho) : i.w.cell? ⟨B, 5, none⟩ = some (.bool ha) := (PsB.at i.ps).2.2.2.2.2.1
theorem Cls.at6 (w : World) (B : Nat) (n v d p : ByteArray) (he ha hp : Bool) (x a s : Int) (sc ho : Bool) (i : Cls w B n v d p he ha hp x a s sc ho) : i.w.cell? ⟨B, 6, none⟩ = some (.bool hp) := (PsB.at i.ps).2.2.2.2.2.2.1
theorem Cls.at7 (w : World) (B : Nat) (n v d p : ByteArray) (he ha hp : Bool) (x a s : Int) (sc ho : Bool) (i : Cls w B n v d p he ha hp x a s sc ho) : i.w.cell? ⟨B, 7, none⟩ = some (.int .i64 x) := (PsB.at i.ps).2.2.2.2.2.2.2.1
theorem Cls.at8 (w : World) (B : Nat) (n v d p : ByteArray) (he ha hp : Bool) (x a s : Int) (sc ho : Bool) (i : Cls w B n v d p he ha hp x a s sc ho) : i.w.cell? ⟨B, 8, none⟩ = some (.int .i64 a) := (PsB.at i.ps).2.2.2.2.2.2.2.2.1
theorem Cls.at9 (w : World) (B : Nat) (n v d p : ByteArray) (he ha hp : Bool) (x a s : Int) (sc ho : Bool) (i : Cls w B n v d p he ha hp x a s sc ho) : i.w.cell? ⟨B, 9, none⟩ = some (.int .i64 s) := (PsB.at i.ps).2.2.2.2.2.2.2.2.2.1
theorem Cls.at10 (w : World) (B : Nat) (n v d p : ByteArray) (he ha hp : Bool) (x a s : Int) (sc ho : Bool) (i : Cls w B n v d p he ha hp x a s sc ho) : i.w.cell? ⟨B, 10, none⟩ = some (.bool sc) := (PsB.at i.ps).2.2.2.2.2.2.2.2.2.2.1
theorem Cls.at11 (w : World) (B : Nat) (n v d p : ByteArray) (he ha hp : Bool) (x a s : Int) (sc ho : Bool) (i : Cls w B n v d p he ha hp x a s sc ho) : i.w.cell? ⟨B, 11, none⟩ = some (.bool ho) := (PsB.at i.ps).2.2.2.2.2.2.2.2.2.2.2
theorem wp_region_class {P : Program} {id : Nat} {Q : Exit → Act → World → Prop} {a : Act} {w : World} {l : List Oper} (C : World → Prop) (hm : P.follows .mixedOrders = true) (hB : Region.lexB .any l.toArray = true) (hC : C { w with drawn := w.drawn + 1 })
    (h : wpQuiet P l.toArray C (fun a' => ∀ w', C w' → Q .normal a' w') l a) : (Code.region id l.toArray true).wp P Q a w :=
  wp_region_quiet (C := C) hm hB hC (by simpa using h)
end Go.Proofs.YtpdonghdnaehhaaGreatDoor
