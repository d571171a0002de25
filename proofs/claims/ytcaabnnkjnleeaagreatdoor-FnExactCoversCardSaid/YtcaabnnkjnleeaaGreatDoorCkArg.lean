/- A law's argument of a cookie, opened; the law's cookie handed on, weighed and compared. No condition of its own. -/
import Derived.Test.YtcaabnnkjnleeaaGreatDoorCkMath
import Derived.Deep.Fields
namespace Go.Proofs.YtcaabnnkjnleeaaGreatDoor
open Go.ChangeShapes Go.WideShapes Go.ChangeAt Go.WideMaps Go.WideElems Go.RowKit

theorem open_cookie {H : Type} {enc : TypeId × Value → H} {P : Program} {w : World} {base b0 : Nat} {spare : Nat → Bool} {held : Bool} {r : Reach} {t ts tb ti : TypeId} {fs : Array Field} {v : Value} {d : DataW H} {p : List MemPlace}
    (hs : P.underlying t = some (.struct fs)) (hone : Go.Deep.oneCellFields P fs = true) (hC : P.cellsOf t = 12) (hn : fs.size = 12) (hty : fs.toList.map (·.type) = [ti, ts, ts, ts, ts, tb, tb, tb, ti, ti, ti, ti])
    (hS : P.underlying ts = some .string) (hB : P.underlying tb = some .bool) (hI : P.underlying ti = some (.int .i64))
    (hv : Value.okWide P w r b0 t v) (h : DataW.Trod enc P w base spare held t v d p) :
    ∃ q : Ck, v = .agg #[.int .i64 q.i, .string q.n, .string q.v, .string q.d, .string q.p, .bool q.ho, .bool q.sc, .bool q.ht, .int .i64 q.s, .int .i64 q.x, .int .i64 q.m, .int .i64 q.u] ∧ q.n.size ≤ maxLen ∧ q.v.size ≤ maxLen ∧ q.d.size ≤ maxLen ∧ q.p.size ≤ maxLen := by
  obtain ⟨cs, rfl, hsz⟩ := okWide_struct hs hv
  obtain ⟨fuel, hf⟩ := h
  obtain ⟨xs, m, _, _, hlen, hxl, hg⟩ := DataW.trod_struct hs hf
  have at_ : ∀ j, j < 12 → ∃ (fuel' : Nat) (z : DataW H × List MemPlace) (c : List Value), DataW.trod enc P w base spare held fuel' ([ti, ts, ts, ts, ts, tb, tb, tb, ti, ti, ti, ti].getD j 0) c = some z ∧ ∀ u, c = [u] → cs[j]? = some u := by
    intro j hj
    have hfj := Array.getElem?_eq_getElem (xs := fs) (i := j) (by omega)
    obtain ⟨ho, hk⟩ := Go.Deep.hone_of hone j _ hfj
    have h1 := hg j _ hfj
    have ht : (fs[j]'(by omega)).type = [ti, ts, ts, ts, ts, tb, tb, tb, ti, ti, ti, ti].getD j 0 := by
      rw [← hty, List.getD_eq_getElem?_getD, List.getElem?_map, Array.getElem?_toList, hfj]
      rfl
    rw [ho, hk, List.getElem?_eq_getElem (show j < xs.length by omega)] at h1
    rw [ht] at h1
    refine ⟨_, _, _, h1, fun u hu => ?_⟩
    have := congrArg (·[0]?) hu
    simpa [Value.cells, List.getElem?_take, List.getElem?_drop] using this
  have str : ∀ j, j < 12 → [ti, ts, ts, ts, ts, tb, tb, tb, ti, ti, ti, ti].getD j 0 = ts → ∃ u : ByteArray, cs[j]? = some (.string u) ∧ u.size ≤ maxLen := by
    intro j hj ht
    obtain ⟨f, z, c, h1, h2⟩ := at_ j hj
    rw [ht] at h1
    obtain ⟨u, hu, _, hm⟩ := DataW.trod_string hS h1
    exact ⟨u, h2 _ hu, hm⟩
  have boo : ∀ j, j < 12 → [ti, ts, ts, ts, ts, tb, tb, tb, ti, ti, ti, ti].getD j 0 = tb → ∃ u : Bool, cs[j]? = some (.bool u) := by
    intro j hj ht
    obtain ⟨f, z, c, h1, h2⟩ := at_ j hj
    rw [ht] at h1
    obtain ⟨u, hu, _⟩ := DataW.trod_bool hB h1
    exact ⟨u, h2 _ hu⟩
  have int : ∀ j, j < 12 → [ti, ts, ts, ts, ts, tb, tb, tb, ti, ti, ti, ti].getD j 0 = ti → ∃ u : Int, cs[j]? = some (.int .i64 u) := by
    intro j hj ht
    obtain ⟨f, z, c, h1, h2⟩ := at_ j hj
    rw [ht] at h1
    obtain ⟨u, hu, _⟩ := DataW.trod_int hI h1
    exact ⟨u, h2 _ hu⟩
  obtain ⟨x0, h0⟩ := int 0 (by omega) rfl
  obtain ⟨x1, h1, m1⟩ := str 1 (by omega) rfl
  obtain ⟨x2, h2, m2⟩ := str 2 (by omega) rfl
  obtain ⟨x3, h3, m3⟩ := str 3 (by omega) rfl
  obtain ⟨x4, h4, m4⟩ := str 4 (by omega) rfl
  obtain ⟨x5, h5⟩ := boo 5 (by omega) rfl
  obtain ⟨x6, h6⟩ := boo 6 (by omega) rfl
  obtain ⟨x7, h7⟩ := boo 7 (by omega) rfl
  obtain ⟨x8, h8⟩ := int 8 (by omega) rfl
  obtain ⟨x9, h9⟩ := int 9 (by omega) rfl
  obtain ⟨x10, h10⟩ := int 10 (by omega) rfl
  obtain ⟨x11, h11⟩ := int 11 (by omega) rfl
  refine ⟨⟨x0, x1, x2, x3, x4, x5, x6, x7, x8, x9, x10, x11⟩, ?_, m1, m2, m3, m4⟩
  congr 1
  apply Array.ext_getElem?
  intro i
  match i with
  | 0 => exact h0
  | 1 => exact h1
  | 2 => exact h2
  | 3 => exact h3
  | 4 => exact h4
  | 5 => exact h5
  | 6 => exact h6
  | 7 => exact h7
  | 8 => exact h8
  | 9 => exact h9
  | 10 => exact h10
  | 11 => exact h11
  | i + 12 => rw [Array.getElem?_eq_none (by omega), Array.getElem?_eq_none (by simp)]
theorem toCookie_any (q : Ck) (w : World) : Calls Tryz.prog 11 #[.agg #[.int .i64 q.i, .string q.n, .string q.v, .string q.d, .string q.p, .bool q.ho, .bool q.sc, .bool q.ht, .int .i64 q.s, .int .i64 q.x, .int .i64 q.m, .int .i64 q.u]] w fun e w' => e = .returned (.agg #[.int .i64 q.i, .string q.n, .string q.v, .string q.d, .string q.p, .bool q.ho, .bool q.sc, .bool q.ht, .int .i64 q.s, .int .i64 q.x, .int .i64 q.m, .int .i64 q.u]) ∧ Below w.heap.size w w' := by
  go_enter Tryz.func11, Tryz.ntmps11
  go_wp2_with fail
  refine bodyPost_ret (v := .agg #[.int .i64 q.i, .string q.n, .string q.v, .string q.d, .string q.p, .bool q.ho, .bool q.sc, .bool q.ht, .int .i64 q.s, .int .i64 q.x, .int .i64 q.m, .int .i64 q.u]) (by simp [results, Tryz.results11, go_sem]) rfl ⟨rfl, (((Below.refl _ _).alloc (Nat.le_refl _) _).alloc (by simp) _).alloc (by simp; omega) _⟩
theorem szCookie_any (q : Ck) (L : Nat) (w : World) (hL : L ≤ 1048576) (h : wtC q ≤ L) : Calls Tryz.prog 9 #[.agg #[.int .i64 q.i, .string q.n, .string q.v, .string q.d, .string q.p, .bool q.ho, .bool q.sc, .bool q.ht, .int .i64 q.s, .int .i64 q.x, .int .i64 q.m, .int .i64 q.u], .int .i64 L] w fun e w' => e = .returned (.int .i64 ((L - wtC q : Nat) : Int)) ∧ Below w.heap.size w w' := by
  unfold wtC at h
  go_enter Tryz.func9, Tryz.ntmps9
  go_wp2_with fail
  go_ret
  exact ⟨congrArg (fun z : Int => Ending.returned (Value.int .i64 z)) (by unfold wtC; omega), (Below.refl _ _).alloc (Nat.le_refl _) _⟩
theorem szCookie_big (q : Ck) (L : Nat) (w : World) (hL : L ≤ 1048576) (m0 : q.n.size ≤ maxLen) (m1 : q.v.size ≤ maxLen) (m2 : q.d.size ≤ maxLen) (m3 : q.p.size ≤ maxLen) (h : L < wtC q) : Calls Tryz.prog 9 #[.agg #[.int .i64 q.i, .string q.n, .string q.v, .string q.d, .string q.p, .bool q.ho, .bool q.sc, .bool q.ht, .int .i64 q.s, .int .i64 q.x, .int .i64 q.m, .int .i64 q.u], .int .i64 L] w fun e w' => e = .returned (.int .i64 (-1)) ∧ Below w.heap.size w w' := by
  unfold maxLen at m0 m1 m2 m3
  unfold wtC at h
  by_cases h0 : L < q.n.size
  · go_enter Tryz.func9, Tryz.ntmps9
    go_wp2_with fail
    go_ret
    exact ⟨rfl, (Below.refl _ _).alloc (Nat.le_refl _) _⟩
  by_cases h1 : L < q.n.size + q.v.size
  · go_enter Tryz.func9, Tryz.ntmps9
    go_wp2_with fail
    go_ret
    exact ⟨rfl, (Below.refl _ _).alloc (Nat.le_refl _) _⟩
  by_cases h2 : L < q.n.size + q.v.size + q.d.size
  · go_enter Tryz.func9, Tryz.ntmps9
    go_wp2_with fail
    go_ret
    exact ⟨rfl, (Below.refl _ _).alloc (Nat.le_refl _) _⟩
  · go_enter Tryz.func9, Tryz.ntmps9
    go_wp2_with fail
    go_ret
    exact ⟨rfl, (Below.refl _ _).alloc (Nat.le_refl _) _⟩
theorem eqCookie_any (q : Ck) (w : World) : Calls Tryz.prog 130 #[.agg #[.int .i64 q.i, .string q.n, .string q.v, .string q.d, .string q.p, .bool q.ho, .bool q.sc, .bool q.ht, .int .i64 q.s, .int .i64 q.x, .int .i64 q.m, .int .i64 q.u], .agg #[.int .i64 q.i, .string q.n, .string q.v, .string q.d, .string q.p, .bool q.ho, .bool q.sc, .bool q.ht, .int .i64 q.s, .int .i64 q.x, .int .i64 q.m, .int .i64 q.u]] w fun e w' => e = .returned (.bool true) ∧ Below w.heap.size w w' := by
  have g0 : (q.i != q.i) = false := by simp
  have g1 : (q.n.toList != q.n.toList) = false := by simp
  have g2 : (q.v.toList != q.v.toList) = false := by simp
  have g3 : (q.d.toList != q.d.toList) = false := by simp
  have g4 : (q.p.toList != q.p.toList) = false := by simp
  have g5 : (q.ho != q.ho) = false := by simp
  have g6 : (q.sc != q.sc) = false := by simp
  have g7 : (q.ht != q.ht) = false := by simp
  have g8 : (q.s != q.s) = false := by simp
  have g9 : (q.x != q.x) = false := by simp
  have g10 : (q.m != q.m) = false := by simp
  have g11 : (q.u != q.u) = false := by simp
  go_enter Tryz.func130, Tryz.ntmps130
  go_wp2_with fail
  go_ret
  exact ⟨rfl, ((Below.refl _ _).alloc (Nat.le_refl _) _).alloc (by simp) _⟩
end Go.Proofs.YtcaabnnkjnleeaaGreatDoor
