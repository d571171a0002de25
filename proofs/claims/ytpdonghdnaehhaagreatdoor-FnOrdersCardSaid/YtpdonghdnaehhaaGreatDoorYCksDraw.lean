/- The model's drawn lists of cookies. No condition of its own. -/
import Derived.Test.YtpdonghdnaehhaaGreatDoorYCkDraw
import Derived.OwnWalk
import Derived.Laws.AppendOwn
namespace Go.Proofs.YtpdonghdnaehhaaGreatDoor
open Go.ChangeShapes Go.WideShapes Go.ChangeAt Go.WideMaps Go.WideElems Go.RowKit

/-- The cells of a row of cookies. -/
def cellsC (q : Ck) : List Value := [.int .i64 q.i, .string q.n, .string q.v, .string q.d, .string q.p, .bool q.ho, .bool q.sc, .bool q.ht, .int .i64 q.s, .int .i64 q.x, .int .i64 q.m, .int .i64 q.u]
def cellsL (qs : List Ck) : List Value := qs.flatMap cellsC
theorem cellsL_length (qs : List Ck) : (cellsL qs).length = qs.length * 12 := by
  induction qs with
  | nil => rfl
  | cons q qs ih =>
    simp only [cellsL, List.flatMap_cons, List.length_append, List.length_cons] at ih ⊢
    rw [ih, show (cellsC q).length = 12 from rfl]
    omega
theorem cellsL_snoc (qs : List Ck) (q : Ck) : cellsL (qs ++ [q]) = cellsL qs ++ [.int .i64 q.i, .string q.n, .string q.v, .string q.d, .string q.p, .bool q.ho, .bool q.sc, .bool q.ht, .int .i64 q.s, .int .i64 q.x, .int .i64 q.m, .int .i64 q.u] := by simp [cellsL, cellsC]
theorem cellsL_get : ∀ (qs : List Ck) (j : Nat) (hj : j < qs.length) (f : Nat), f < 12 → (cellsL qs)[j * 12 + f]? = (cellsC qs[j])[f]?
  | q :: qs, 0, _, f, hf => by
    rw [show cellsL (q :: qs) = cellsC q ++ cellsL qs from rfl, List.getElem?_append_left (by show 0 * 12 + f < 12; omega)]
    simp
  | q :: qs, j + 1, hj, f, hf => by
    rw [show cellsL (q :: qs) = cellsC q ++ cellsL qs from rfl, List.getElem?_append_right (by show 12 ≤ (j + 1) * 12 + f; omega)]
    rw [show (j + 1) * 12 + f - (cellsC q).length = j * 12 + f by show (j + 1) * 12 + f - 12 = _; omega]
    exact cellsL_get qs j (by simpa using hj) f hf
theorem rowCk_owned {w : World} {B : Nat} {v : Value} {qs : List Ck} (h : w.ownsRow B 41 12 v qs.length (cellsL qs)) : RowCk w B v qs := by
  obtain ⟨_, h | ⟨g, cap, cur, rfl, hge, hh, h2, h3, h4, h5⟩⟩ := h
  · obtain ⟨rfl, hn⟩ := h
    exact ⟨none, 0, by rw [hn], by omega, by unfold maxLen; omega, fun h0 => by omega⟩
  · refine ⟨_, cap, rfl, h2, h3, fun h0 => ⟨g, rfl, hge, (Array.getElem?_eq_some_iff.1 hh).1, fun t _ => frz_none hh t, fun j hj => ?_⟩⟩
    have cell : ∀ f, f < 12 → w.cell? ⟨g, j * 12 + f, none⟩ = (cellsC qs[j])[f]? := fun f hf => by
      rw [← cellsL_get qs j hj f hf, ← h5, List.getElem?_take_of_lt (by omega)]
      simp [World.cell?, hh]
    exact ⟨cell 0 (by omega), cell 1 (by omega), cell 2 (by omega), cell 3 (by omega), cell 4 (by omega), cell 5 (by omega), cell 6 (by omega), cell 7 (by omega), cell 8 (by omega), cell 9 (by omega), cell 10 (by omega), cell 11 (by omega)⟩
theorem one_cookie (q : Ck) : ∀ u ∈ ([.int .i64 q.i, .string q.n, .string q.v, .string q.d, .string q.p, .bool q.ho, .bool q.sc, .bool q.ht, .int .i64 q.s, .int .i64 q.x, .int .i64 q.m, .int .i64 q.u] : List Value), u.oneCell' = true := by
  intro u h
  simp only [List.mem_cons, List.not_mem_nil, or_false] at h
  rcases h with rfl | rfl | rfl | rfl | rfl | rfl | rfl | rfl | rfl | rfl | rfl | rfl <;> rfl
theorem cell_cookie (w : World) (q : Ck) (t : TypeId) : ∀ (j : Nat) (u : Value), ([.int .i64 q.i, .string q.n, .string q.v, .string q.d, .string q.p, .bool q.ho, .bool q.sc, .bool q.ht, .int .i64 q.s, .int .i64 q.x, .int .i64 q.m, .int .i64 q.u] : List Value)[j]? = some u → (w.alloc (.cells #[.int .i64 q.i, .string q.n, .string q.v, .string q.d, .string q.p, .bool q.ho, .bool q.sc, .bool q.ht, .int .i64 q.s, .int .i64 q.x, .int .i64 q.m, .int .i64 q.u] t)).cell? (Addr.add ⟨w.heap.size, 0, none⟩ j) = some u := by
  intro j u h
  rw [Go.WideShapes.add_plain, World.cell?_alloc_at _ _ _ _ rfl, Nat.zero_add]
  rw [← h]
  simp
def DsRel (b : Nat) (v : Value) (len n : Nat) (w : World) (out i : Value) (wr : World) : Prop :=
  ∃ (k m : Nat) (qs : List Ck), k + qs.length ≤ 5 ∧ i = .int .i64 k ∧ m + 13 * k ≤ n + 100 ∧ Src b v len m wr ∧ w.grownBy wr (some b) ∧ wr.ownsRow w.heap.size 41 12 out qs.length (cellsL qs) ∧ (∀ q ∈ qs, CkDrawn q)
def DsPost (b : Nat) (w : World) (e : Ending) (w' : World) : Prop :=
  ∃ (v : Value) (qs : List Ck), e = .returned v ∧ RowCk w' w.heap.size v qs ∧ qs.length ≤ 5 ∧ (∀ q ∈ qs, CkDrawn q) ∧ w.grownBy w' (some b)
theorem own_offC {w wr : World} {b : Nat} {v : Value} {e size n : Nat} {xs : List Value} (h : wr.ownsRow w.heap.size e size v n xs) (hb : b < w.heap.size) : v.ownBlock = none ∨ v.ownBlock ≠ some b := by
  right
  intro e
  have := (h.lt b e).1
  omega
theorem grown_newC {w wr w1 : World} {b : Nat} {row : Option Nat} (h : w.grownBy wr (some b)) (k : wr.grownBy w1 row) (hr : ∀ r, row = some r → w.heap.size ≤ r) : w.grownBy w1 (some b) :=
  ⟨k.1.trans h.1, k.2.trans h.2, k.3.trans h.3, Nat.le_trans h.size k.size, fun j hj hne => (k.block j (Nat.lt_of_lt_of_le hj h.size) (fun e => by have := hr j e.symm; omega)).trans (h.block j hj hne)⟩
set_option maxHeartbeats 4000000 in
set_option maxRecDepth 100000 in
theorem cookiesSrc_any (b : Nat) (v : Value) (len n : Nat) (w : World) (hn : n < 100000) (h : Src b v len n w) (hb : b < w.heap.size) : Calls Tryz.prog 106 #[.pointer (some ⟨b, 0, none⟩)] w (DsPost b w) := by
  obtain ⟨i0, hi, hzz⟩ := Option.map_eq_some_iff.1 info_cookie
  simp only [Prod.mk.injEq] at hzz
  obtain ⟨hz0, hz1, hz2⟩ := hzz
  have HCA := Lib.hid h.1
  have HS := Lib.hid (src_kept h (World.grownBy_alloc w (.cells #[] 41) none))
  clear h
  go_enter Tryz.func106, Tryz.ntmps106
  go_wp2_with (go_at_call 182; refine (next_small b v len n _ 6 (by omega) (by omega) (by omega) HS.out).mono ?_; rintro e w1 ⟨k, rfl, hr1, hsrc, hg⟩; have HX := Lib.hid hsrc; have HG := Lib.hid hg; clear hsrc hg)
  go_loopw [3, 4] (fun out i wr => DsRel b v len n w out i wr) (fun _ i _ => (intOf i).toNat)
  case atStart =>
    have hown : (w.alloc (.cells #[] 41)).ownsRow w.heap.size 41 12 (.slice (some ⟨w.heap.size, 0, none⟩) 0 0) 0 [] := ⟨rfl, .inr ⟨w.heap.size, 0, #[], rfl, Nat.le_refl _, heap_alloc_new _ _, Nat.le_refl _, Nat.zero_le _, rfl, rfl⟩⟩
    exact ⟨k, n + 1, [], by simpa using hr1, rfl, by omega, HX.out, grown_trans (World.grownBy_alloc _ _ _) HG.out, hown.kept HG.out (own_offC hown hb), fun q hq => by cases hq⟩
  case round =>
    clear HX HG
    obtain ⟨k, m, qs, hk4, rfl, hq, hsrc, hg, hown, hru⟩ := hrel
    have HX := Lib.hid hsrc
    have HG := Lib.hid hg
    have HO := Lib.hid hown
    have HR := Lib.hid hru
    have hsz := hg.size
    clear hsrc hg hown hru
    by_cases hk : 0 < k
    · have hki : (0 : Int) < (k : Int) := by omega
      go_wp2_with fail
      refine (cookieSrc_any b v len m wr (by omega) HX.out (by omega)).mono ?_
      rintro e w2 ⟨q, rfl, hqd, ⟨m2, hm2, hsrc⟩, hg2⟩
      have HX2 := Lib.hid hsrc
      have HG2 := Lib.hid (grown_trans HG.out hg2)
      have HO2 := Lib.hid (HO.out.kept hg2 (own_offC HO.out hb))
      have HQ := Lib.hid hqd
      have hsz2 := hg2.size
      clear hsrc hg2 hqd
      go_wp2_with (at_builtin; refine wpList_append_own _ rfl (.tmp 12) (.tmp 15) 47 rfl w.heap.size 41 i0 _ 12 112 Tryz.underlying47 hi hz0 hz1 hz2 rfl (by decide) _ _ _ rfl (HO2.out.alloc _) ⟨w2.heap.size, 0, none⟩ 1 1 [.int .i64 q.i, .string q.n, .string q.v, .string q.d, .string q.p, .bool q.ho, .bool q.sc, .bool q.ht, .int .i64 q.s, .int .i64 q.x, .int .i64 q.m, .int .i64 q.u] rfl rfl (cell_cookie _ _ _) ?c2 ?c3 ?c4 ?c5 ?_; rotate_left 4; intro v' w4 hown' hgrow _)
      case c2 => exact one_cookie _
      case c3 => unfold maxLen; omega
      case c4 => omega
      case c5 => first | (simp; omega) | omega
      go_roundw
      case rel =>
        have hga : w2.grownBy (w2.alloc (.cells #[.int .i64 q.i, .string q.n, .string q.v, .string q.d, .string q.p, .bool q.ho, .bool q.sc, .bool q.ht, .int .i64 q.s, .int .i64 q.x, .int .i64 q.m, .int .i64 q.u] 41)) (some b) := World.grownBy_alloc _ _ _
        have hg4 : w.grownBy w4 (some b) := grown_newC (grown_trans HG2.out hga) hgrow (fun r e => (HO2.out.lt r e).1)
        obtain ⟨_, seed, s0, s1, hblk⟩ := HX2.out
        have hbl : w4.heap[b]? = _ := (hgrow.block b (by simp; omega) (fun e => by have := (HO2.out.lt b e.symm).1; omega)).trans ((Below.heap_alloc _ _ _ (by omega)).trans hblk)
        refine ⟨k - 1, m2, qs ++ [q], by rw [List.length_append]; simp; omega, by rw [Int.ofNat_sub hk]; rfl, by omega, src_of HCA.out hg4 s0 s1 hbl, hg4, ?_, ?_⟩
        · rw [List.length_append, cellsL_snoc]
          exact hown'
        · intro y hy
          rcases List.mem_append.1 hy with hy | hy
          · exact HR.out y hy
          · obtain rfl := List.mem_singleton.1 hy
            exact HQ.out
      case measure => simp [intOf]; omega
    · have hki : (k : Int) ≤ 0 := by omega
      go_wp2
      go_ret
      exact ⟨_, qs, rfl, rowCk_owned HO.out, by omega, HR.out, HG.out⟩
def CksPost (w : World) (e : Ending) (w' : World) : Prop := ∃ (v : Value) (qs : List Ck), e = .returned v ∧ RowCk w' w.heap.size v qs ∧ qs.length ≤ 5 ∧ (∀ q ∈ qs, CkDrawn q) ∧ Below w.heap.size w w'
theorem cksDrawn_any (v : Value) (len : Nat) (w : World) (h : CodeIn w v len) : Calls Tryz.prog 34 #[v] w (CksPost w) := by
  have HC := Lib.hid h
  clear h
  go_enter Tryz.func34, Tryz.ntmps34
  go_wp2_with (first
    | (go_at_call 64; refine (source_any _ _ _ HC.out).mono ?_; rintro e w1 ⟨rfl, hsrc, hb⟩; have HX := Lib.hid hsrc; have HB := Lib.hid hb; clear hsrc hb)
    | (go_at_call 106; refine (cookiesSrc_any _ _ _ _ _ (by omega) HX.out (by have := Src.lt HX.out; omega)).mono ?_; rintro e w2 ⟨u, qs, rfl, hrow, hl5, hd, hg⟩; have HG := Lib.hid hg; have HRW := Lib.hid hrow; have HD := Lib.hid hd; have HL5 := Lib.hid hl5; clear hg hrow hd hl5))
  go_ret
  exact ⟨u, qs, rfl, HRW.out.more HB.out.size, HL5.out, HD.out, below_of_own HB.out HG.out⟩
end Go.Proofs.YtpdonghdnaehhaaGreatDoor
