/- A slice of cookies: how it reads; the laws' own helpers that weigh it, copy it and compare it. No condition of its own. -/
import Derived.Test.YtpdonghdnaehhaaGreatDoorYCkBlk
import Derived.Deep.Slices
import Derived.Deep.OwnRows
import Derived.Test.YtpdonghdnaehhaaGreatDoorBelowCls
import Derived.Deep.DeepCutAuto
import Derived.BigQuiet
namespace Go.Proofs.YtpdonghdnaehhaaGreatDoor
open Go.ChangeShapes Go.WideShapes Go.ChangeAt Go.WideMaps Go.WideElems Go.RowKit

instance : Inhabited Ck := ⟨⟨0, ⟨#[]⟩, ⟨#[]⟩, ⟨#[]⟩, ⟨#[]⟩, false, false, false, 0, 0, 0, 0⟩⟩
/-- Twelve cells that hold a cookie. -/
def CkAt (w : World) (g o : Nat) (q : Ck) : Prop := w.cell? ⟨g, o, none⟩ = some (.int .i64 q.i) ∧ w.cell? ⟨g, o + 1, none⟩ = some (.string q.n) ∧ w.cell? ⟨g, o + 2, none⟩ = some (.string q.v) ∧ w.cell? ⟨g, o + 3, none⟩ = some (.string q.d) ∧ w.cell? ⟨g, o + 4, none⟩ = some (.string q.p) ∧ w.cell? ⟨g, o + 5, none⟩ = some (.bool q.ho) ∧ w.cell? ⟨g, o + 6, none⟩ = some (.bool q.sc) ∧ w.cell? ⟨g, o + 7, none⟩ = some (.bool q.ht) ∧ w.cell? ⟨g, o + 8, none⟩ = some (.int .i64 q.s) ∧ w.cell? ⟨g, o + 9, none⟩ = some (.int .i64 q.x) ∧ w.cell? ⟨g, o + 10, none⟩ = some (.int .i64 q.m) ∧ w.cell? ⟨g, o + 11, none⟩ = some (.int .i64 q.u)
theorem CkAt.below {w w' : World} {B g o : Nat} {q : Ck} (h : CkAt w g o q) (hb : Below B w w') (hg : g < B) : CkAt w' g o q := by
  obtain ⟨c0, c1, c2, c3, c4, c5, c6, c7, c8, c9, c10, c11⟩ := h
  exact ⟨(hb.cell (p := ⟨g, o, none⟩) hg).trans c0, (hb.cell (p := ⟨g, o + 1, none⟩) hg).trans c1, (hb.cell (p := ⟨g, o + 2, none⟩) hg).trans c2, (hb.cell (p := ⟨g, o + 3, none⟩) hg).trans c3, (hb.cell (p := ⟨g, o + 4, none⟩) hg).trans c4, (hb.cell (p := ⟨g, o + 5, none⟩) hg).trans c5, (hb.cell (p := ⟨g, o + 6, none⟩) hg).trans c6, (hb.cell (p := ⟨g, o + 7, none⟩) hg).trans c7, (hb.cell (p := ⟨g, o + 8, none⟩) hg).trans c8, (hb.cell (p := ⟨g, o + 9, none⟩) hg).trans c9, (hb.cell (p := ⟨g, o + 10, none⟩) hg).trans c10, (hb.cell (p := ⟨g, o + 11, none⟩) hg).trans c11⟩
theorem cookie_of {H : Type} {enc : TypeId × Value → H} {P : Program} {w : World} {base : Nat} {spare : Nat → Bool} {held : Bool} {fuel : Nat} {t ts tb ti : TypeId} {fs : Array Field} {cs : List Value} {x : DataW H × List MemPlace}
    (hs : P.underlying t = some (.struct fs)) (hone : Go.Deep.oneCellFields P fs = true) (hn : fs.size = 12) (hty : fs.toList.map (·.type) = [ti, ts, ts, ts, ts, tb, tb, tb, ti, ti, ti, ti])
    (hS : P.underlying ts = some .string) (hB : P.underlying tb = some .bool) (hI : P.underlying ti = some (.int .i64)) (hsz : cs.length = 12) (hf : DataW.trod enc P w base spare held fuel t cs = some x) :
    ∃ q : Ck, cs = [.int .i64 q.i, .string q.n, .string q.v, .string q.d, .string q.p, .bool q.ho, .bool q.sc, .bool q.ht, .int .i64 q.s, .int .i64 q.x, .int .i64 q.m, .int .i64 q.u] ∧ q.n.size ≤ maxLen ∧ q.v.size ≤ maxLen ∧ q.d.size ≤ maxLen ∧ q.p.size ≤ maxLen := by
  obtain ⟨xs, m, _, _, hlen, hxl, hg⟩ := DataW.trod_struct hs hf
  have at_ : ∀ j, j < 12 → ∃ (fuel' : Nat) (z : DataW H × List MemPlace) (c : List Value), DataW.trod enc P w base spare held fuel' ([ti, ts, ts, ts, ts, tb, tb, tb, ti, ti, ti, ti].getD j 0) c = some z ∧ ∀ u, c = [u] → cs[j]? = some u := by
    intro j hj
    have hfj := Array.getElem?_eq_getElem (xs := fs) (i := j) (by omega)
    obtain ⟨ho, hk⟩ := Go.Deep.hone_of hone j _ hfj
    have h1 := hg j _ hfj
    have ht : (fs[j]'(by omega)).type = [ti, ts, ts, ts, ts, tb, tb, tb, ti, ti, ti, ti].getD j 0 := by
      rw [← hty, List.getD_eq_getElem?_getD, List.getElem?_map, Array.getElem?_toList, hfj]
      rfl
    rw [ho, hk, List.getElem?_eq_getElem (show j < xs.length by omega)] at h1
    rw [ht] at h1
    refine ⟨_, _, _, h1, fun u hu => ?_⟩
    have := congrArg (·[0]?) hu
    simpa [List.getElem?_take, List.getElem?_drop] using this
  have str : ∀ j, j < 12 → [ti, ts, ts, ts, ts, tb, tb, tb, ti, ti, ti, ti].getD j 0 = ts → ∃ u : ByteArray, cs[j]? = some (.string u) ∧ u.size ≤ maxLen := by
    intro j hj ht
    obtain ⟨f, z, c, h1, h2⟩ := at_ j hj
    rw [ht] at h1
    obtain ⟨u, hu, _, hm⟩ := DataW.trod_string hS h1
    exact ⟨u, h2 _ hu, hm⟩
  have boo : ∀ j, j < 12 → [ti, ts, ts, ts, ts, tb, tb, tb, ti, ti, ti, ti].getD j 0 = tb → ∃ u : Bool, cs[j]? = some (.bool u) := by
    intro j hj ht
    obtain ⟨f, z, c, h1, h2⟩ := at_ j hj
    rw [ht] at h1
    obtain ⟨u, hu, _⟩ := DataW.trod_bool hB h1
    exact ⟨u, h2 _ hu⟩
  have int : ∀ j, j < 12 → [ti, ts, ts, ts, ts, tb, tb, tb, ti, ti, ti, ti].getD j 0 = ti → ∃ u : Int, cs[j]? = some (.int .i64 u) := by
    intro j hj ht
    obtain ⟨f, z, c, h1, h2⟩ := at_ j hj
    rw [ht] at h1
    obtain ⟨u, hu, _⟩ := DataW.trod_int hI h1
    exact ⟨u, h2 _ hu⟩
  obtain ⟨x0, h0⟩ := int 0 (by omega) rfl
  obtain ⟨x1, h1, m1⟩ := str 1 (by omega) rfl
  obtain ⟨x2, h2, m2⟩ := str 2 (by omega) rfl
  obtain ⟨x3, h3, m3⟩ := str 3 (by omega) rfl
  obtain ⟨x4, h4, m4⟩ := str 4 (by omega) rfl
  obtain ⟨x5, h5⟩ := boo 5 (by omega) rfl
  obtain ⟨x6, h6⟩ := boo 6 (by omega) rfl
  obtain ⟨x7, h7⟩ := boo 7 (by omega) rfl
  obtain ⟨x8, h8⟩ := int 8 (by omega) rfl
  obtain ⟨x9, h9⟩ := int 9 (by omega) rfl
  obtain ⟨x10, h10⟩ := int 10 (by omega) rfl
  obtain ⟨x11, h11⟩ := int 11 (by omega) rfl
  refine ⟨⟨x0, x1, x2, x3, x4, x5, x6, x7, x8, x9, x10, x11⟩, ?_, m1, m2, m3, m4⟩
  apply List.ext_getElem?
  intro i
  match i with
  | 0 => exact h0
  | 1 => exact h1
  | 2 => exact h2
  | 3 => exact h3
  | 4 => exact h4
  | 5 => exact h5
  | 6 => exact h6
  | 7 => exact h7
  | 8 => exact h8
  | 9 => exact h9
  | 10 => exact h10
  | 11 => exact h11
  | i + 12 => rw [List.getElem?_eq_none (by omega), List.getElem?_eq_none (by simp)]
/-- A slice of cookies that came in. -/
def ArgCk (w : World) (v : Value) (qs : List Ck) : Prop :=
  ∃ a cap, v = .slice a qs.length cap ∧ qs.length ≤ cap ∧ cap ≤ maxLen ∧ (0 < qs.length → ∃ b off, a = some ⟨b, off, none⟩ ∧ b < w.heap.size ∧ ∀ j (hj : j < qs.length), CkAt w b (off + j * 12) qs[j])
theorem ArgCk.below {w w' : World} {v : Value} {qs : List Ck} (h : ArgCk w v qs) (hb : Below w.heap.size w w') : ArgCk w' v qs := by
  obtain ⟨a, cap, rfl, h1, h2, h3⟩ := h
  refine ⟨a, cap, rfl, h1, h2, fun h0 => ?_⟩
  obtain ⟨b, off, rfl, h4, h5⟩ := h3 h0
  exact ⟨b, off, rfl, Nat.lt_of_lt_of_le h4 hb.size, fun j hj => (h5 j hj).below hb h4⟩
/-- Its texts are no longer than texts may be. -/
def mxC (q : Ck) : Prop := q.n.size ≤ maxLen ∧ q.v.size ≤ maxLen ∧ q.d.size ≤ maxLen ∧ q.p.size ≤ maxLen
theorem cookies_in {H : Type} {enc : TypeId × Value → H} {P : Program} {W : World} {base : Nat} {t e ts tb ti : TypeId} {fs : Array Field} {v : Value} {d : DataW H} {qs : List MemPlace}
    (ht : P.underlying t = some (.slice e)) (hs : P.underlying e = some (.struct fs)) (hone : Go.Deep.oneCellFields P fs = true) (hC : P.cellsOf e = 12) (hn : fs.size = 12) (hty : fs.toList.map (·.type) = [ti, ts, ts, ts, ts, tb, tb, tb, ti, ti, ti, ti])
    (hS : P.underlying ts = some .string) (hB : P.underlying tb = some .bool) (hI : P.underlying ti = some (.int .i64))
    (hv : Value.okWide P W .any base t v) (hd : DataW.Trod enc P W 0 (fun _ => true) true t v d qs) : ∃ ps : List Ck, ArgCk W v ps ∧ ∀ x ∈ ps, mxC x := by
  obtain ⟨a, len, cap, rfl⟩ := okWide_slice ht hv
  obtain ⟨fuel, hf⟩ := hd
  rcases Go.Deep.open_slice ht hf with ⟨hcs, _⟩ | ⟨a1, len1, cap1, m, n, D, Pl, hcs, _, hl, hm, hmm, _, hx⟩
  · simp [Value.cells] at hcs
    obtain ⟨rfl, rfl, rfl⟩ := hcs
    exact ⟨[], ⟨none, 0, rfl, Nat.le_refl _, Nat.zero_le _, fun h => absurd h (by simp)⟩, by simp⟩
  · simp [Value.cells] at hcs
    obtain ⟨rfl, rfl, rfl⟩ := hcs
    have hlm : len ≤ m := by rw [hmm]; split <;> omega
    have each : ∀ i, i < len → ∃ q : Ck, mxC q ∧ (∀ f, f < 12 → W.cell? ((a1.add (i * 12)).add f) = [.int .i64 q.i, .string q.n, .string q.v, .string q.d, .string q.p, .bool q.ho, .bool q.sc, .bool q.ht, .int .i64 q.s, .int .i64 q.x, .int .i64 q.m, .int .i64 q.u][f]?) := by
      intro i hi
      obtain ⟨cs', h1, h2⟩ := hx i (by omega)
      rw [hC] at h1
      obtain ⟨_, hlen, hcell⟩ := World.cells?_some h1
      obtain ⟨q, hq, m1, m2, m3, m4⟩ := cookie_of hs hone hn hty hS hB hI hlen h2
      refine ⟨q, ⟨m1, m2, m3, m4⟩, fun f hf => ?_⟩
      have := hcell f hf
      rw [this, ← hq]
    obtain ⟨Sx, hSx⟩ := Go.Deep.choose_lt each
    have hlen : ((List.range len).map Sx).length = len := by simp
    refine ⟨(List.range len).map Sx, ⟨some a1, cap, by rw [hlen], by rw [hlen]; exact hl, hm, fun h0 => ?_⟩, ?_⟩
    · rw [hlen] at h0
      obtain ⟨b, off, spot⟩ := a1
      have hspot : spot = none := by
        have := (hSx 0 (by omega)).2 0 (by omega)
        simpa [Addr.add] using World.cell?_spot this
      subst hspot
      have hc2 : ∀ j, j < len → ∀ f, f < 12 → W.cell? ⟨b, off + j * 12 + f, none⟩ = [.int .i64 (Sx j).i, .string (Sx j).n, .string (Sx j).v, .string (Sx j).d, .string (Sx j).p, .bool (Sx j).ho, .bool (Sx j).sc, .bool (Sx j).ht, .int .i64 (Sx j).s, .int .i64 (Sx j).x, .int .i64 (Sx j).m, .int .i64 (Sx j).u][f]? := fun j hj f hf => by
        rw [← (hSx j hj).2 f hf, Go.Deep.add_add, Go.WideShapes.add_plain, Nat.add_assoc]
      refine ⟨b, off, rfl, ?_, fun j hj => ?_⟩
      · have := hc2 0 h0 0 (by omega)
        exact World.block_lt_of_cell? W _ this
      · have hj2 : j < len := by rw [hlen] at hj; exact hj
        rw [List.getElem_map, List.getElem_range]
        exact ⟨hc2 j hj2 0 (by omega), hc2 j hj2 1 (by omega), hc2 j hj2 2 (by omega), hc2 j hj2 3 (by omega), hc2 j hj2 4 (by omega), hc2 j hj2 5 (by omega), hc2 j hj2 6 (by omega), hc2 j hj2 7 (by omega), hc2 j hj2 8 (by omega), hc2 j hj2 9 (by omega), hc2 j hj2 10 (by omega), hc2 j hj2 11 (by omega)⟩
    · intro x hx2
      obtain ⟨i, hi, rfl⟩ := List.mem_map.1 hx2
      exact (hSx i (List.mem_range.1 hi)).1
/-- How much a list of cookies weighs. -/
def wtL (qs : List Ck) : Nat := (qs.map wtC).foldr (· + ·) 0
theorem wtL_append (a b : List Ck) : wtL (a ++ b) = wtL a + wtL b := by
  induction a with
  | nil => simp [wtL]
  | cons x a ih =>
    simp only [wtL, List.cons_append, List.map_cons, List.foldr_cons] at ih ⊢
    omega
theorem wtL_take {qs : List Ck} {k : Nat} (h : k < qs.length) : wtL (qs.take (k + 1)) = wtL (qs.take k) + wtC qs[k] := by
  rw [List.take_succ_eq_append_getElem h, wtL_append]
  simp [wtL]
theorem wtL_take_le (qs : List Ck) (k : Nat) : wtL (qs.take k) ≤ wtL qs := by
  have := wtL_append (qs.take k) (qs.drop k)
  rw [List.take_append_drop] at this
  omega
theorem wtL_mem {qs : List Ck} {x : Ck} (h : x ∈ qs) : wtC x ≤ wtL qs := by
  induction qs with
  | nil => cases h
  | cons y qs ih =>
    simp only [wtL, List.map_cons, List.foldr_cons] at ih ⊢
    rcases List.mem_cons.1 h with rfl | h
    · omega
    · have := ih h
      omega
def SzCRel (w : World) (qs : List Ck) (L : Nat) (left i : Value) (wr : World) : Prop := ∃ k : Nat, k ≤ qs.length ∧ i = .int .i64 k ∧ qs.length + wtL (qs.take k) ≤ L ∧ left = .int .i64 ((L - qs.length - wtL (qs.take k) : Nat) : Int) ∧ Below w.heap.size w wr
def SzCPost (w : World) (qs : List Ck) (L : Nat) (e : Ending) (w' : World) : Prop := ∃ r : Int, e = .returned (.int .i64 r) ∧ (qs.length + wtL qs ≤ L → 0 ≤ r) ∧ (¬ qs.length + wtL qs ≤ L → r = -1) ∧ Below w.heap.size w w'
theorem info_cookie : (Tryz.prog.info? 41).map (fun i => (i.zero, i.size, i.bytes)) = some (some (.agg #[.int .i64 0, .string ByteArray.empty, .string ByteArray.empty, .string ByteArray.empty, .string ByteArray.empty, .bool false, .bool false, .bool false, .int .i64 0, .int .i64 0, .int .i64 0, .int .i64 0]), 12, 112) := by kernel_rfl
theorem make_cookies (n : Nat) (hn : n ≤ 1048576) (w : World) : (Instr.makeSlice 47 (.int .i64 (n : Int)) (.int .i64 (n : Int))).run Tryz.prog w = .ok (.slice (some ⟨w.heap.size, 0, none⟩) n n) (w.alloc (.cells (madeCells #[.int .i64 0, .string ByteArray.empty, .string ByteArray.empty, .string ByteArray.empty, .string ByteArray.empty, .bool false, .bool false, .bool false, .int .i64 0, .int .i64 0, .int .i64 0, .int .i64 0] (n * 12)) 41)) := by
  obtain ⟨i, hi, hzz⟩ := Option.map_eq_some_iff.1 info_cookie
  simp only [Prod.mk.injEq] at hzz
  obtain ⟨hz, hs, hb⟩ := hzz
  have hr := run_make (P := Tryz.prog) w 47 41 i _ Tryz.underlying47 hi hz .i64 .i64 n n (by omega) (Int.le_refl _) (by rw [hb]; omega) (by omega)
  simp only [Int.toNat_natCast, hs] at hr
  exact hr
theorem frz_none {w : World} {g : Nat} {cs : Array Value} {t : TypeId} (h : w.heap[g]? = some (.cells cs t (0, 0))) (j : Nat) : w.frozen? ⟨g, j, none⟩ = false := by simp [World.frozen?, h]
theorem mk_free (w : World) (z : Array Value) (n : Nat) (e : TypeId) (t : Nat) : (w.alloc (.cells (madeCells z n) e)).frozen? ⟨w.heap.size, t, none⟩ = false := frz_none (heap_alloc_new w _) t
theorem mk_cell (w : World) (z : Array Value) (n : Nat) (e : TypeId) (t : Nat) (h : t < n) : ∃ u, (w.alloc (.cells (madeCells z n) e)).cell? ⟨w.heap.size, t, none⟩ = some u := by
  have hs : (madeCells z n).size = n := size_madeCells z n
  refine ⟨(madeCells z n)[t]'(by omega), ?_⟩
  rw [World.cell?_alloc_at _ _ _ _ rfl]
  exact Array.getElem?_eq_getElem (by omega)
/-- A row of cookies of the program, with a length that its capacity bears. -/
def RowCk (w : World) (B : Nat) (v : Value) (qs : List Ck) : Prop :=
  ∃ a cap, v = .slice a qs.length cap ∧ qs.length ≤ cap ∧ cap ≤ maxLen ∧ (0 < qs.length → ∃ g, a = some ⟨g, 0, none⟩ ∧ B ≤ g ∧ g < w.heap.size ∧ (∀ t, t < qs.length * 12 → w.frozen? ⟨g, t, none⟩ = false) ∧ ∀ j (hj : j < qs.length), CkAt w g (j * 12) qs[j])
theorem RowCk.below {w w' : World} {B : Nat} {v : Value} {qs : List Ck} (h : RowCk w B v qs) (hb : Below w.heap.size w w') : RowCk w' B v qs := by
  obtain ⟨a, cap, rfl, h1, h2, h3⟩ := h
  refine ⟨a, cap, rfl, h1, h2, fun h0 => ?_⟩
  obtain ⟨g, rfl, h4, h5, h6, h7⟩ := h3 h0
  exact ⟨g, rfl, h4, Nat.lt_of_lt_of_le h5 hb.size, fun t ht => by rw [World.frozen?, hb.block g h5]; exact h6 t ht, fun j hj => (h7 j hj).below hb h5⟩
theorem RowCk.more {w : World} {B B' : Nat} {v : Value} {qs : List Ck} (h : RowCk w B v qs) (hB : B' ≤ B) : RowCk w B' v qs := by
  obtain ⟨a, cap, rfl, h1, h2, h3⟩ := h
  refine ⟨a, cap, rfl, h1, h2, fun h0 => ?_⟩
  obtain ⟨g, rfl, h4, h5, h6, h7⟩ := h3 h0
  exact ⟨g, rfl, Nat.le_trans hB h4, h5, h6, h7⟩
/-- A cookie stored. -/
def putCk (w : World) (B o : Nat) (q : Ck) : World := ((((((((((((w).setCell ⟨B, o, none⟩ (.int .i64 q.i)).setCell ⟨B, o + 1, none⟩ (.string q.n)).setCell ⟨B, o + 2, none⟩ (.string q.v)).setCell ⟨B, o + 3, none⟩ (.string q.d)).setCell ⟨B, o + 4, none⟩ (.string q.p)).setCell ⟨B, o + 5, none⟩ (.bool q.ho)).setCell ⟨B, o + 6, none⟩ (.bool q.sc)).setCell ⟨B, o + 7, none⟩ (.bool q.ht)).setCell ⟨B, o + 8, none⟩ (.int .i64 q.s)).setCell ⟨B, o + 9, none⟩ (.int .i64 q.x)).setCell ⟨B, o + 10, none⟩ (.int .i64 q.m)).setCell ⟨B, o + 11, none⟩ (.int .i64 q.u)
theorem cell_put_ne {w : World} {B o t : Nat} {u : Value} (h : o ≠ t) : (w.setCell ⟨B, o, none⟩ u).cell? ⟨B, t, none⟩ = w.cell? ⟨B, t, none⟩ := World.cell?_setCell_other _ _ _ _ (fun e => h (by injection e))
theorem cell_put_eq {w : World} {B o : Nat} {u old : Value} (h : w.cell? ⟨B, o, none⟩ = some old) : (w.setCell ⟨B, o, none⟩ u).cell? ⟨B, o, none⟩ = some u := World.cell?_setCell_same _ _ _ h
theorem putCk_frozen (w : World) (B o : Nat) (q : Ck) (a : Addr) : (putCk w B o q).frozen? a = w.frozen? a := by
  unfold putCk
  simp only [World.frozen?_setCell]
theorem putCk_size (w : World) (B o : Nat) (q : Ck) : (putCk w B o q).heap.size = w.heap.size := by
  unfold putCk
  simp [World.setCell]
theorem putCk_below {w0 w : World} {B0 B : Nat} (h : Below B0 w0 w) (hB : B0 ≤ B) (o : Nat) (q : Ck) : Below B0 w0 (putCk w B o q) := by
  unfold putCk
  exact ((((((((((((h).setCell (p := ⟨B, o, none⟩) hB _).setCell (p := ⟨B, o + 1, none⟩) hB _).setCell (p := ⟨B, o + 2, none⟩) hB _).setCell (p := ⟨B, o + 3, none⟩) hB _).setCell (p := ⟨B, o + 4, none⟩) hB _).setCell (p := ⟨B, o + 5, none⟩) hB _).setCell (p := ⟨B, o + 6, none⟩) hB _).setCell (p := ⟨B, o + 7, none⟩) hB _).setCell (p := ⟨B, o + 8, none⟩) hB _).setCell (p := ⟨B, o + 9, none⟩) hB _).setCell (p := ⟨B, o + 10, none⟩) hB _).setCell (p := ⟨B, o + 11, none⟩) hB _
theorem putCk_other {w : World} {B o t : Nat} {q : Ck} (h : t < o ∨ o + 12 ≤ t) : (putCk w B o q).cell? ⟨B, t, none⟩ = w.cell? ⟨B, t, none⟩ := by
  unfold putCk
  rw [cell_put_ne (by omega), cell_put_ne (by omega), cell_put_ne (by omega), cell_put_ne (by omega), cell_put_ne (by omega), cell_put_ne (by omega), cell_put_ne (by omega), cell_put_ne (by omega), cell_put_ne (by omega), cell_put_ne (by omega), cell_put_ne (by omega), cell_put_ne (by omega)]
theorem putCk_at {w : World} {B o : Nat} {q : Ck} (h : ∀ f, f < 12 → ∃ u, w.cell? ⟨B, o + f, none⟩ = some u) : CkAt (putCk w B o q) B o q := by
  obtain ⟨u0, k0⟩ := h 0 (by omega)
  obtain ⟨u1, k1⟩ := h 1 (by omega)
  obtain ⟨u2, k2⟩ := h 2 (by omega)
  obtain ⟨u3, k3⟩ := h 3 (by omega)
  obtain ⟨u4, k4⟩ := h 4 (by omega)
  obtain ⟨u5, k5⟩ := h 5 (by omega)
  obtain ⟨u6, k6⟩ := h 6 (by omega)
  obtain ⟨u7, k7⟩ := h 7 (by omega)
  obtain ⟨u8, k8⟩ := h 8 (by omega)
  obtain ⟨u9, k9⟩ := h 9 (by omega)
  obtain ⟨u10, k10⟩ := h 10 (by omega)
  obtain ⟨u11, k11⟩ := h 11 (by omega)
  unfold putCk
  refine ⟨?_, ?_, ?_, ?_, ?_, ?_, ?_, ?_, ?_, ?_, ?_, ?_⟩
  · rw [cell_put_ne (by omega), cell_put_ne (by omega), cell_put_ne (by omega), cell_put_ne (by omega), cell_put_ne (by omega), cell_put_ne (by omega), cell_put_ne (by omega), cell_put_ne (by omega), cell_put_ne (by omega), cell_put_ne (by omega), cell_put_ne (by omega)]
    exact cell_put_eq (old := u0) (by exact k0)
  · rw [cell_put_ne (by omega), cell_put_ne (by omega), cell_put_ne (by omega), cell_put_ne (by omega), cell_put_ne (by omega), cell_put_ne (by omega), cell_put_ne (by omega), cell_put_ne (by omega), cell_put_ne (by omega), cell_put_ne (by omega)]
    exact cell_put_eq (old := u1) (by rw [cell_put_ne (by omega)]; exact k1)
  · rw [cell_put_ne (by omega), cell_put_ne (by omega), cell_put_ne (by omega), cell_put_ne (by omega), cell_put_ne (by omega), cell_put_ne (by omega), cell_put_ne (by omega), cell_put_ne (by omega), cell_put_ne (by omega)]
    exact cell_put_eq (old := u2) (by rw [cell_put_ne (by omega), cell_put_ne (by omega)]; exact k2)
  · rw [cell_put_ne (by omega), cell_put_ne (by omega), cell_put_ne (by omega), cell_put_ne (by omega), cell_put_ne (by omega), cell_put_ne (by omega), cell_put_ne (by omega), cell_put_ne (by omega)]
    exact cell_put_eq (old := u3) (by rw [cell_put_ne (by omega), cell_put_ne (by omega), cell_put_ne (by omega)]; exact k3)
  · rw [cell_put_ne (by omega), cell_put_ne (by omega), cell_put_ne (by omega), cell_put_ne (by omega), cell_put_ne (by omega), cell_put_ne (by omega), cell_put_ne (by omega)]
    exact cell_put_eq (old := u4) (by rw [cell_put_ne (by omega), cell_put_ne (by omega), cell_put_ne (by omega), cell_put_ne (by omega)]; exact k4)
  · rw [cell_put_ne (by omega), cell_put_ne (by omega), cell_put_ne (by omega), cell_put_ne (by omega), cell_put_ne (by omega), cell_put_ne (by omega)]
    exact cell_put_eq (old := u5) (by rw [cell_put_ne (by omega), cell_put_ne (by omega), cell_put_ne (by omega), cell_put_ne (by omega), cell_put_ne (by omega)]; exact k5)
  · rw [cell_put_ne (by omega), cell_put_ne (by omega), cell_put_ne (by omega), cell_put_ne (by omega), cell_put_ne (by omega)]
    exact cell_put_eq (old := u6) (by rw [cell_put_ne (by omega), cell_put_ne (by omega), cell_put_ne (by omega), cell_put_ne (by omega), cell_put_ne (by omega), cell_put_ne (by omega)]; exact k6)
  · rw [cell_put_ne (by omega), cell_put_ne (by omega), cell_put_ne (by omega), cell_put_ne (by omega)]
    exact cell_put_eq (old := u7) (by rw [cell_put_ne (by omega), cell_put_ne (by omega), cell_put_ne (by omega), cell_put_ne (by omega), cell_put_ne (by omega), cell_put_ne (by omega), cell_put_ne (by omega)]; exact k7)
  · rw [cell_put_ne (by omega), cell_put_ne (by omega), cell_put_ne (by omega)]
    exact cell_put_eq (old := u8) (by rw [cell_put_ne (by omega), cell_put_ne (by omega), cell_put_ne (by omega), cell_put_ne (by omega), cell_put_ne (by omega), cell_put_ne (by omega), cell_put_ne (by omega), cell_put_ne (by omega)]; exact k8)
  · rw [cell_put_ne (by omega), cell_put_ne (by omega)]
    exact cell_put_eq (old := u9) (by rw [cell_put_ne (by omega), cell_put_ne (by omega), cell_put_ne (by omega), cell_put_ne (by omega), cell_put_ne (by omega), cell_put_ne (by omega), cell_put_ne (by omega), cell_put_ne (by omega), cell_put_ne (by omega)]; exact k9)
  · rw [cell_put_ne (by omega)]
    exact cell_put_eq (old := u10) (by rw [cell_put_ne (by omega), cell_put_ne (by omega), cell_put_ne (by omega), cell_put_ne (by omega), cell_put_ne (by omega), cell_put_ne (by omega), cell_put_ne (by omega), cell_put_ne (by omega), cell_put_ne (by omega), cell_put_ne (by omega)]; exact k10)
  · exact cell_put_eq (old := u11) (by rw [cell_put_ne (by omega), cell_put_ne (by omega), cell_put_ne (by omega), cell_put_ne (by omega), cell_put_ne (by omega), cell_put_ne (by omega), cell_put_ne (by omega), cell_put_ne (by omega), cell_put_ne (by omega), cell_put_ne (by omega), cell_put_ne (by omega)]; exact k11)
theorem putCk_keeps {w : World} {B o t : Nat} {q x : Ck} (h : t + 12 ≤ o ∨ o + 12 ≤ t) (hx : CkAt w B t x) : CkAt (putCk w B o q) B t x := by
  obtain ⟨c0, c1, c2, c3, c4, c5, c6, c7, c8, c9, c10, c11⟩ := hx
  exact ⟨(putCk_other (by omega)).trans c0, (putCk_other (by omega)).trans c1, (putCk_other (by omega)).trans c2, (putCk_other (by omega)).trans c3, (putCk_other (by omega)).trans c4, (putCk_other (by omega)).trans c5, (putCk_other (by omega)).trans c6, (putCk_other (by omega)).trans c7, (putCk_other (by omega)).trans c8, (putCk_other (by omega)).trans c9, (putCk_other (by omega)).trans c10, (putCk_other (by omega)).trans c11⟩
theorem putCk_some {w : World} {B o t : Nat} {q : Ck} (h : ∀ f, f < 12 → ∃ u, w.cell? ⟨B, o + f, none⟩ = some u) (ht : ∃ u, w.cell? ⟨B, t, none⟩ = some u) : ∃ u, (putCk w B o q).cell? ⟨B, t, none⟩ = some u := by
  by_cases hlt : t < o ∨ o + 12 ≤ t
  · rw [putCk_other hlt]
    exact ht
  · obtain ⟨f, hf, rfl⟩ : ∃ f, f < 12 ∧ t = o + f := ⟨t - o, by omega, by omega⟩
    obtain ⟨c0, c1, c2, c3, c4, c5, c6, c7, c8, c9, c10, c11⟩ := putCk_at (q := q) h
    match f, hf with
    | 0, _ => exact ⟨_, c0⟩
    | 1, _ => exact ⟨_, c1⟩
    | 2, _ => exact ⟨_, c2⟩
    | 3, _ => exact ⟨_, c3⟩
    | 4, _ => exact ⟨_, c4⟩
    | 5, _ => exact ⟨_, c5⟩
    | 6, _ => exact ⟨_, c6⟩
    | 7, _ => exact ⟨_, c7⟩
    | 8, _ => exact ⟨_, c8⟩
    | 9, _ => exact ⟨_, c9⟩
    | 10, _ => exact ⟨_, c10⟩
    | 11, _ => exact ⟨_, c11⟩
/-- What has been copied behind k cookies. -/
def CpRel (w : World) (B : Nat) (qs : List Ck) (i : Value) (wr : World) : Prop :=
  ∃ j : Nat, j ≤ qs.length ∧ i = .int .i64 j ∧ (∀ t, t < qs.length * 12 → wr.frozen? ⟨B, t, none⟩ = false) ∧ (∀ t (ht : t < qs.length), t < j → CkAt wr B (t * 12) qs[t]) ∧ (∀ t, t < qs.length * 12 → ∃ u, wr.cell? ⟨B, t, none⟩ = some u) ∧ Below B w wr ∧ B < wr.heap.size
end Go.Proofs.YtpdonghdnaehhaaGreatDoor
