/- A law's argument of a parsed header, opened; the law's header handed on, counted and compared. No condition of its own. -/
import Derived.Test.YtihlflhgbnfkkaaGreatDoorBase
import Derived.Deep.Fields
namespace Go.Proofs.YtihlflhgbnfkkaaGreatDoor
open Go.ChangeShapes Go.WideShapes Go.ChangeAt Go.WideMaps Go.WideElems Go.RowKit

/-- The value of a parsed header. -/
def parsV (n v d p : ByteArray) (he ha hp : Bool) (x a s : Int) (sc ho : Bool) : Value := .agg #[.string n, .string v, .string d, .string p, .bool he, .bool ha, .bool hp, .int .i64 x, .int .i64 a, .int .i64 s, .bool sc, .bool ho]
theorem open_parsed {H : Type} {enc : TypeId × Value → H} {P : Program} {w : World} {base b0 : Nat} {spare : Nat → Bool} {held : Bool} {r : Reach} {t ts tb ti : TypeId} {fs : Array Field} {v : Value} {d : DataW H} {p : List MemPlace}
    (hs : P.underlying t = some (.struct fs)) (hone : Go.Deep.oneCellFields P fs = true) (hC : P.cellsOf t = 12) (hn : fs.size = 12) (hty : fs.toList.map (·.type) = [ts, ts, ts, ts, tb, tb, tb, ti, ti, ti, tb, tb])
    (hS : P.underlying ts = some .string) (hB : P.underlying tb = some .bool) (hI : P.underlying ti = some (.int .i64))
    (hv : Value.okWide P w r b0 t v) (h : DataW.Trod enc P w base spare held t v d p) :
    ∃ (x0 x1 x2 x3 : ByteArray) (x4 x5 x6 : Bool) (x7 x8 x9 : Int) (x10 x11 : Bool), v = .agg #[.string x0, .string x1, .string x2, .string x3, .bool x4, .bool x5, .bool x6, .int .i64 x7, .int .i64 x8, .int .i64 x9, .bool x10, .bool x11] ∧ x0.size ≤ maxLen ∧ x1.size ≤ maxLen ∧ x2.size ≤ maxLen ∧ x3.size ≤ maxLen := by
  obtain ⟨cs, rfl, hsz⟩ := okWide_struct hs hv
  obtain ⟨fuel, hf⟩ := h
  obtain ⟨xs, m, _, _, hlen, hxl, hg⟩ := DataW.trod_struct hs hf
  have at_ : ∀ j, j < 12 → ∃ (fuel' : Nat) (z : DataW H × List MemPlace) (c : List Value), DataW.trod enc P w base spare held fuel' ([ts, ts, ts, ts, tb, tb, tb, ti, ti, ti, tb, tb].getD j 0) c = some z ∧ ∀ u, c = [u] → cs[j]? = some u := by
    intro j hj
    have hfj := Array.getElem?_eq_getElem (xs := fs) (i := j) (by omega)
    obtain ⟨ho, hk⟩ := Go.Deep.hone_of hone j _ hfj
    have h1 := hg j _ hfj
    have ht : (fs[j]'(by omega)).type = [ts, ts, ts, ts, tb, tb, tb, ti, ti, ti, tb, tb].getD j 0 := by
      rw [← hty, List.getD_eq_getElem?_getD, List.getElem?_map, Array.getElem?_toList, hfj]
      rfl
    rw [ho, hk, List.getElem?_eq_getElem (show j < xs.length by omega)] at h1
    rw [ht] at h1
    refine ⟨_, _, _, h1, fun u hu => ?_⟩
    have := congrArg (·[0]?) hu
    simpa [Value.cells, List.getElem?_take, List.getElem?_drop] using this
  have str : ∀ j, j < 12 → [ts, ts, ts, ts, tb, tb, tb, ti, ti, ti, tb, tb].getD j 0 = ts → ∃ u : ByteArray, cs[j]? = some (.string u) ∧ u.size ≤ maxLen := by
    intro j hj ht
    obtain ⟨f, z, c, h1, h2⟩ := at_ j hj
    rw [ht] at h1
    obtain ⟨u, hu, _, hm⟩ := DataW.trod_string hS h1
    exact ⟨u, h2 _ hu, hm⟩
  have boo : ∀ j, j < 12 → [ts, ts, ts, ts, tb, tb, tb, ti, ti, ti, tb, tb].getD j 0 = tb → ∃ u : Bool, cs[j]? = some (.bool u) := by
    intro j hj ht
    obtain ⟨f, z, c, h1, h2⟩ := at_ j hj
    rw [ht] at h1
    obtain ⟨u, hu, _⟩ := DataW.trod_bool hB h1
    exact ⟨u, h2 _ hu⟩
  have int : ∀ j, j < 12 → [ts, ts, ts, ts, tb, tb, tb, ti, ti, ti, tb, tb].getD j 0 = ti → ∃ u : Int, cs[j]? = some (.int .i64 u) := by
    intro j hj ht
    obtain ⟨f, z, c, h1, h2⟩ := at_ j hj
    rw [ht] at h1
    obtain ⟨u, hu, _⟩ := DataW.trod_int hI h1
    exact ⟨u, h2 _ hu⟩
  obtain ⟨x0, h0, m0⟩ := str 0 (by omega) rfl
  obtain ⟨x1, h1, m1⟩ := str 1 (by omega) rfl
  obtain ⟨x2, h2, m2⟩ := str 2 (by omega) rfl
  obtain ⟨x3, h3, m3⟩ := str 3 (by omega) rfl
  obtain ⟨x4, h4⟩ := boo 4 (by omega) rfl
  obtain ⟨x5, h5⟩ := boo 5 (by omega) rfl
  obtain ⟨x6, h6⟩ := boo 6 (by omega) rfl
  obtain ⟨x7, h7⟩ := int 7 (by omega) rfl
  obtain ⟨x8, h8⟩ := int 8 (by omega) rfl
  obtain ⟨x9, h9⟩ := int 9 (by omega) rfl
  obtain ⟨x10, h10⟩ := boo 10 (by omega) rfl
  obtain ⟨x11, h11⟩ := boo 11 (by omega) rfl
  refine ⟨x0, x1, x2, x3, x4, x5, x6, x7, x8, x9, x10, x11, ?_, m0, m1, m2, m3⟩
  congr 1
  apply Array.ext_getElem?
  intro i
  match i with
  | 0 => exact h0
  | 1 => exact h1
  | 2 => exact h2
  | 3 => exact h3
  | 4 => exact h4
  | 5 => exact h5
  | 6 => exact h6
  | 7 => exact h7
  | 8 => exact h8
  | 9 => exact h9
  | 10 => exact h10
  | 11 => exact h11
  | i + 12 => rw [Array.getElem?_eq_none (by omega), Array.getElem?_eq_none (by simp)]
theorem eqParsed_any (n v d p : ByteArray) (he ha hp : Bool) (x a s : Int) (sc ho : Bool) (w : World) : Calls Tryz.prog 35 #[.agg #[.string n, .string v, .string d, .string p, .bool he, .bool ha, .bool hp, .int .i64 x, .int .i64 a, .int .i64 s, .bool sc, .bool ho], .agg #[.string n, .string v, .string d, .string p, .bool he, .bool ha, .bool hp, .int .i64 x, .int .i64 a, .int .i64 s, .bool sc, .bool ho]] w fun e w' => e = .returned (.bool true) ∧ Below w.heap.size w w' := by
  have g0 : (n.toList != n.toList) = false := by simp
  have g1 : (v.toList != v.toList) = false := by simp
  have g2 : (d.toList != d.toList) = false := by simp
  have g3 : (p.toList != p.toList) = false := by simp
  have g4 : (he != he) = false := by simp
  have g5 : (ha != ha) = false := by simp
  have g6 : (hp != hp) = false := by simp
  have g7 : (x != x) = false := by simp
  have g8 : (a != a) = false := by simp
  have g9 : (s != s) = false := by simp
  have g10 : (sc != sc) = false := by simp
  have g11 : (ho != ho) = false := by simp
  go_enter Tryz.func35, Tryz.ntmps35
  go_wp2_with fail
  go_ret
  exact ⟨rfl, ((Below.refl _ _).alloc (Nat.le_refl _) _).alloc (by simp) _⟩
end Go.Proofs.YtihlflhgbnfkkaaGreatDoor
