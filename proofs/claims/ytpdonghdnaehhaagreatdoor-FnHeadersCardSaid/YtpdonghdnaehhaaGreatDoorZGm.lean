/- The model's drawn date: some valid date. The source has been asked fewer than 900000 times. -/
import Derived.Test.YtpdonghdnaehhaaGreatDoorDraws
import Derived.Test.YtpdonghdnaehhaaGreatDoorZGf
import Derived.Deep.RegionHeld3
namespace Go.Proofs.YtpdonghdnaehhaaGreatDoor
open Go.ChangeShapes Go.WideShapes Go.ChangeAt Go.WideMaps Go.WideElems Go.RowKit

theorem srcNum_of {b : Nat} {v : Value} {len n hi : Nat} {w w' : World} {x : Int} (h0 : 0 ≤ x) (h1 : x ≤ hi) (hs : Src b v len n w') (hg : w.grownBy w' (some b)) : SrcNum b v len n hi w (.returned (.int .i64 x)) w' := srcNum_mk h0 h1 hs hg
set_option maxHeartbeats 1000000 in
set_option maxRecDepth 100000 in
theorem next_big (b : Nat) (v : Value) (len n : Nat) (w : World) (m : Nat) (hm : 257 ≤ m) (hm2 : m ≤ 16777216) (hn : n < 999990) (h : Src b v len n w) : Calls Tryz.prog 182 #[.pointer (some ⟨b, 0, none⟩), .int .i64 m] w (SrcNum b v len (n + 1 + 1 + 1) (m - 1) w) := by
  have HS := Lib.hid h
  clear h
  go_enter Tryz.func182, Tryz.ntmps182
  go_wp2_with fail
  refine (byte_any b v len n _ (by omega) HS.out).mono ?_
  rintro e w1 ⟨r1, rfl, hr1, hsrc, hg⟩
  have HX1 := Lib.hid hsrc
  have HG1 := Lib.hid hg
  clear hsrc hg
  go_wp2_with fail
  refine (byte_any b v len (n + 1) _ (by omega) HX1.out).mono ?_
  rintro e w2 ⟨r2, rfl, hr2, hsrc, hg⟩
  have HX2 := Lib.hid hsrc
  have HG2 := Lib.hid (grown_trans HG1.out hg)
  clear hsrc hg
  go_wp2_with fail
  refine (byte_any b v len (n + 1 + 1) _ (by omega) HX2.out).mono ?_
  rintro e w3 ⟨r3, rfl, hr3, hsrc, hg⟩
  have HX3 := Lib.hid hsrc
  have HG3 := Lib.hid (grown_trans HG2.out hg)
  clear hsrc hg
  go_wp2_with fail
  go_ret
  exact srcNum_mk (x := ((r1 : Int) * 65536 + r2 * 256 + r3) % m) (Int.emod_nonneg _ (by omega)) (by have := Int.emod_lt_of_pos ((r1 : Int) * 65536 + r2 * 256 + r3) (show (0 : Int) < m by omega); omega) HX3.out HG3.out
def DrawnDate (b : Nat) (v : Value) (len n : Nat) (w : World) (e : Ending) (w' : World) : Prop :=
  ∃ y m d h q s : Int, okB ⟨y, m, d, h, q, s⟩ = true ∧ e = .returned (.agg #[.int .i64 y, .int .i64 m, .int .i64 d, .int .i64 h, .int .i64 q, .int .i64 s]) ∧ Src b v len n w' ∧ w.grownBy w' (some b)
theorem src_grown {b : Nat} {v : Value} {len n : Nat} {w w' : World} (h : Src b v len n w) (hg : w.grownBy w' none) : Src b v len n w' := by
  have hlt := h.lt
  obtain ⟨hc, seed, h0, h1, hb⟩ := h
  have hg2 : w.grownBy w' (some b) := ⟨hg.os, hg.tape, hg.output, hg.size, fun k hk _ => hg.block k hk (by simp)⟩
  exact src_of hc hg2 h0 h1 ((hg.block b hlt (by simp)).trans hb)
theorem blk_stays {w w' : World} {B : Nat} {y m d h n s : Int} (hp : Blk w B y m d h n s) (hb : Below w.heap.size w w') : Blk w' B y m d h n s := (hb.block B hp.lt).trans hp
theorem grown_below {w w' : World} (h : Below w.heap.size w w') (r : Option Nat) : w.grownBy w' r := ⟨h.os, h.tape, h.output, h.size, fun k hk _ => h.block k hk⟩
theorem blk_grown {w w' : World} {B C : Nat} {y m d h n s : Int} (hb : Blk w B y m d h n s) (hg : w.grownBy w' (some C)) (hne : B ≠ C) : Blk w' B y m d h n s := (hg.block B hb.lt (by simpa using hne)).trans hb
theorem grown_put6 {w wr : World} {B b : Nat} (hg : w.grownBy wr (some b)) (hB : w.heap.size ≤ B) (y' m' d' h' n' s' : Int) : w.grownBy ((((((wr.setCell ⟨B, 0, none⟩ (.int .i64 y')).setCell ⟨B, 1, none⟩ (.int .i64 m')).setCell ⟨B, 2, none⟩ (.int .i64 d')).setCell ⟨B, 3, none⟩ (.int .i64 h')).setCell ⟨B, 4, none⟩ (.int .i64 n')).setCell ⟨B, 5, none⟩ (.int .i64 s')) (some b) := by
  have one : ∀ {wr : World} (i : Nat) (x : Value), w.grownBy wr (some b) → w.grownBy (wr.setCell ⟨B, i, none⟩ x) (some b) := fun i x h =>
    ⟨h.os, h.tape, h.output, by simpa [World.setCell] using h.size, fun k hk hr => (Below.heap_setCell _ _ _ _ (by show k ≠ B; omega)).trans (h.block k hk hr)⟩
  exact one _ _ (one _ _ (one _ _ (one _ _ (one _ _ (one _ _ hg)))))
theorem src_put6 {wr : World} {b : Nat} {v : Value} {len n : Nat} {B : Nat} (h : Src b v len n wr) (hB : B ≠ b) (hcode : ∀ (cb off : Nat) (cap : Nat), v = .slice (some ⟨cb, off, none⟩) len cap → 0 < len → cb ≠ B) (y' m' d' h' n' s' : Int) : Src b v len n ((((((wr.setCell ⟨B, 0, none⟩ (.int .i64 y')).setCell ⟨B, 1, none⟩ (.int .i64 m')).setCell ⟨B, 2, none⟩ (.int .i64 d')).setCell ⟨B, 3, none⟩ (.int .i64 h')).setCell ⟨B, 4, none⟩ (.int .i64 n')).setCell ⟨B, 5, none⟩ (.int .i64 s')) := by
  have one : ∀ {wr : World} (i : Nat) (x : Value), Src b v len n wr → Src b v len n (wr.setCell ⟨B, i, none⟩ x) := by
    intro wr i x h
    obtain ⟨⟨hl, a, cap, hv, hc⟩, seed, h0, h1, hb⟩ := h
    refine ⟨⟨hl, a, cap, hv, fun hp => ?_⟩, seed, h0, h1, (Below.heap_setCell _ _ _ _ (by show b ≠ B; exact Ne.symm hB)).trans hb⟩
    obtain ⟨cb, off, rfl, hne, hlt, hz⟩ := hc hp
    have hcb := hcode cb off cap hv hp
    refine ⟨cb, off, rfl, hne, by simpa [World.setCell] using hlt, fun j hj => ?_⟩
    obtain ⟨z, z0, z1, hz⟩ := hz j hj
    exact ⟨z, z0, z1, (World.cell?_setCell_far _ _ _ _ (by simpa using Ne.symm hcb)).trans hz⟩
  exact one _ _ (one _ _ (one _ _ (one _ _ (one _ _ (one _ _ h)))))
set_option maxHeartbeats 1000000 in
set_option maxRecDepth 100000 in
theorem date_any (b : Nat) (v : Value) (len n : Nat) (w : World) (hn : n < 900000) (h : Src b v len n w) (hb : b < w.heap.size) : Calls Tryz.prog 353 #[.pointer (some ⟨b, 0, none⟩)] w (DrawnDate b v len (n + 1 + 1 + 1 + 1 + 1 + 1) w) := by
  have HS := Lib.hid h
  clear h
  go_enter Tryz.func353, Tryz.ntmps353
  go_wp2_with fail
  have HS1 := Lib.hid (src_grown HS.out (grown_below ((Below.refl w.heap.size w).alloc (Nat.le_refl _) (.cells #[.int .i64 0, .int .i64 0, .int .i64 0, .int .i64 0, .int .i64 0, .int .i64 0] 158)) none))
  refine (next_big b v len n _ 9000 (by omega) (by omega) (by omega) HS1.out).mono ?_
  rintro e w1 ⟨r1, rfl, hr1, hsrc, hg⟩
  have HX1 := Lib.hid hsrc
  have HR1 := Lib.hid (blk_grown (Blk.new w 0 0 0 0 0 0) hg (by omega))
  have HG1 := Lib.hid (grown_trans (World.grownBy_alloc w (.cells #[.int .i64 0, .int .i64 0, .int .i64 0, .int .i64 0, .int .i64 0, .int .i64 0] 158) (some b)) hg)
  clear hsrc hg
  go_wp2_with fail
  refine (next_big b v len _ _ 86400 (by omega) (by omega) (by omega) HX1.out).mono ?_
  rintro e w2 ⟨r2, rfl, hr2, hsrc, hg⟩
  have HX2 := Lib.hid hsrc
  have HR2 := Lib.hid (blk_grown HR1.out hg (by omega))
  have HG2 := Lib.hid (grown_trans HG1.out hg)
  clear hsrc hg
  go_wp2_with fail
  refine (specOf _ _ (by omega) (by omega)).mono ?_
  rintro e w3 ⟨y, m, d, h, q, s, hdate, rfl, hb3⟩
  have HOK := Lib.hid (hdate.ok (by omega))
  have HX3 := Lib.hid (src_grown HX2.out (grown_below hb3 none))
  have hres := blk_stays HR2.out hb3
  have HR3 := Lib.hid hres
  have HG3 := Lib.hid (grown_trans HG2.out (grown_below hb3 (some b)))
  have f0 := hres.free 0
  have f1 := hres.free 1
  have f2 := hres.free 2
  have f3 := hres.free 3
  have f4 := hres.free 4
  have f5 := hres.free 5
  obtain ⟨c0, c1, c2, c3, c4, c5⟩ := hres.at
  clear hres hb3 hdate
  go_wp2_with fail
  obtain ⟨q0, q1, q2, q3, q4, q5⟩ := (HR3.out.put y m d h q s).at
  refine bodyPost_ret (v := .agg #[.int .i64 y, .int .i64 m, .int .i64 d, .int .i64 h, .int .i64 q, .int .i64 s]) (by simp [results, Tryz.results353, go_sem, q0, q1, q2, q3, q4, q5]) rfl ?_
  refine ⟨y, m, d, h, q, s, HOK.out, rfl, src_put6 HX3.out (by omega) (fun cb off cap hv hp => ?_) _ _ _ _ _ _, grown_put6 HG3.out (Nat.le_refl _) _ _ _ _ _ _⟩
  obtain ⟨⟨_, a, cap', hv', hc⟩, _⟩ := HS.out
  obtain ⟨cb', off', rfl, _, hlt, _⟩ := hc hp
  rw [hv'] at hv
  simp only [Value.slice.injEq, Option.some.injEq, Addr.mk.injEq] at hv
  omega
def SrcBool (b : Nat) (v : Value) (len n : Nat) (w : World) (e : Ending) (w' : World) : Prop := ∃ r : Bool, e = .returned (.bool r) ∧ Src b v len n w' ∧ w.grownBy w' (some b)
theorem chance_any (b : Nat) (v : Value) (len n : Nat) (w : World) (m : Nat) (hm : 2 ≤ m) (hm2 : m ≤ 256) (hn : n < 1000000) (h : Src b v len n w) : Calls Tryz.prog 191 #[.pointer (some ⟨b, 0, none⟩), .int .i64 m] w (SrcBool b v len (n + 1) w) := by
  have HS := Lib.hid h
  clear h
  go_enter Tryz.func191, Tryz.ntmps191
  go_wp2_with fail
  refine (next_small b v len n _ m hm hm2 hn HS.out).mono ?_
  rintro e w1 ⟨r1, rfl, hr1, hsrc, hg⟩
  have HX1 := Lib.hid hsrc
  have HG1 := Lib.hid hg
  clear hsrc hg
  go_wp2_with fail
  go_ret
  exact ⟨_, rfl, HX1.out, HG1.out⟩
end Go.Proofs.YtpdonghdnaehhaaGreatDoor

namespace Go.Proofs.YtpdonghdnaehhaaGreatDoor
open Go.ChangeShapes Go.WideShapes Go.ChangeAt Go.WideMaps Go.WideElems Go.RowKit

theorem ints_at (zs : List Int) (k : Nat) (hk : k < zs.length) : (zs.map (Value.int .i64)).toArray[k]? = some (.int .i64 (zs.getD k 0)) := by simp [List.getD, hk]
def PickedInt (b : Nat) (v : Value) (len n : Nat) (zs : List Int) (W : World) (e : Ending) (w' : World) : Prop :=
  ∃ (r : Nat) (z : Int), e = .returned (.int .i64 r) ∧ r < zs.length ∧ z ∈ zs ∧ Src b v len (n + 1) w' ∧ W.grownBy w' (some b) ∧ w'.cell? ⟨W.heap.size, r, none⟩ = some (.int .i64 z)
theorem next_pick (b : Nat) (v : Value) (len n : Nat) (W : World) (zs : List Int) (m : Nat) (cs : Array Value) (hcs : cs = (zs.map (Value.int .i64)).toArray) (hm : zs.length = m) (h2 : 2 ≤ m) (h3 : m ≤ 256) (hn : n < 1000000) (h : Src b v len n W) : Calls Tryz.prog 182 #[.pointer (some ⟨b, 0, none⟩), .int .i64 m] (W.alloc (.cells cs 3)) (PickedInt b v len n zs W) := by
  subst hcs hm
  have hlt := h.lt
  have hg0 : W.grownBy (W.alloc (.cells (zs.map (Value.int .i64)).toArray 3)) none := World.grownBy_alloc _ _ _
  refine (next_small b v len n _ zs.length h2 h3 hn (src_grown h hg0)).mono ?_
  rintro e w' ⟨r, rfl, hr, hs, hg⟩
  have hr2 : r < zs.length := by omega
  refine ⟨r, zs.getD r 0, rfl, hr2, ?_, hs, grown_trans (World.grownBy_alloc _ _ _) hg, ?_⟩
  · rw [List.getD_eq_getElem?_getD, List.getElem?_eq_getElem hr2]
    exact List.getElem_mem hr2
  · have hc : (W.alloc (.cells (zs.map (Value.int .i64)).toArray 3)).cell? ⟨W.heap.size, r, none⟩ = some (.int .i64 (zs.getD r 0)) := by
      rw [World.cell?_alloc_at _ _ _ _ rfl]
      exact ints_at zs r hr2
    exact (World.cell?_of_block (a := ⟨W.heap.size, r, none⟩) (hg.block W.heap.size (by simp) (by simp; omega))).trans hc
theorem pick_range (zs : List Int) {z : Int} (h : zs.all (fun x => decide (0 ≤ x ∧ x ≤ 10000)) = true) (hz : z ∈ zs) : 0 ≤ z ∧ z ≤ 10000 := by
  have := List.all_eq_true.1 h z hz
  simpa using this
theorem pick_small (zs : List Int) {z : Int} (h : zs.all (fun x => decide (0 ≤ x ∧ x ≤ 40)) = true) (hz : z ∈ zs) : 0 ≤ z ∧ z ≤ 40 := by
  have := List.all_eq_true.1 h z hz
  simpa using this
theorem grown_one {w wr : World} {B b : Nat} (h : w.grownBy wr (some b)) (hB : w.heap.size ≤ B) (i : Nat) (x : Value) : w.grownBy (wr.setCell ⟨B, i, none⟩ x) (some b) :=
  ⟨h.os, h.tape, h.output, by simpa [World.setCell] using h.size, fun k hk hr => (Below.heap_setCell _ _ _ _ (by show k ≠ B; omega)).trans (h.block k hk hr)⟩
theorem src_one {wr : World} {b : Nat} {v : Value} {len n B : Nat} (h : Src b v len n wr) (hB : B ≠ b) (hcode : ∀ (cb off : Nat) (cap : Nat), v = .slice (some ⟨cb, off, none⟩) len cap → 0 < len → cb ≠ B) (i : Nat) (x : Value) : Src b v len n (wr.setCell ⟨B, i, none⟩ x) := by
  obtain ⟨⟨hl, a, cap, hv, hc⟩, seed, h0, h1, hb⟩ := h
  refine ⟨⟨hl, a, cap, hv, fun hp => ?_⟩, seed, h0, h1, (Below.heap_setCell _ _ _ _ (by show b ≠ B; exact Ne.symm hB)).trans hb⟩
  obtain ⟨cb, off, rfl, hne, hlt, hz⟩ := hc hp
  have hcb := hcode cb off cap hv hp
  refine ⟨cb, off, rfl, hne, by simpa [World.setCell] using hlt, fun j hj => ?_⟩
  obtain ⟨z, z0, z1, hz⟩ := hz j hj
  exact ⟨z, z0, z1, (World.cell?_setCell_far _ _ _ _ (by simpa using Ne.symm hcb)).trans hz⟩
theorem code_old {w : World} {b : Nat} {v : Value} {len n : Nat} (h : Src b v len n w) (B : Nat) (hB : w.heap.size ≤ B) : ∀ (cb off : Nat) (cap : Nat), v = .slice (some ⟨cb, off, none⟩) len cap → 0 < len → cb ≠ B := by
  intro cb off cap hv hp
  obtain ⟨⟨_, a, cap', hv', hc⟩, _⟩ := h
  obtain ⟨cb', off', rfl, _, hlt, _⟩ := hc hp
  rw [hv'] at hv
  simp only [Value.slice.injEq, Option.some.injEq, Addr.mk.injEq] at hv
  omega
def DrawnAny (b : Nat) (v : Value) (len n : Nat) (w : World) (e : Ending) (w' : World) : Prop :=
  ∃ y m d h q s : Int, (0 ≤ y ∧ y ≤ 10000) ∧ (0 ≤ d ∧ d ≤ 40) ∧ (-1 ≤ h ∧ h ≤ 100) ∧ (-1 ≤ s ∧ s ≤ 100) ∧ e = .returned (.agg #[.int .i64 y, .int .i64 m, .int .i64 d, .int .i64 h, .int .i64 q, .int .i64 s]) ∧ (∃ k, k ≤ n + 10 ∧ Src b v len k w') ∧ w.grownBy w' (some b)
set_option maxHeartbeats 1000000 in
set_option maxRecDepth 100000 in
theorem anyDate_any (b : Nat) (v : Value) (len n : Nat) (w : World) (hn : n < 800000) (h : Src b v len n w) (hb : b < w.heap.size) : Calls Tryz.prog 332 #[.pointer (some ⟨b, 0, none⟩)] w (DrawnAny b v len n w) := by
  have HS := Lib.hid h
  clear h
  go_enter Tryz.func332, Tryz.ntmps332
  have hcode := code_old HS.out
  have HCODE := Lib.hid hcode
  clear hcode
  go_wp2_with fail
  have HS1 := Lib.hid (src_grown HS.out (grown_below ((Below.refl w.heap.size w).alloc (Nat.le_refl _) (.cells #[.int .i64 0, .int .i64 0, .int .i64 0, .int .i64 0, .int .i64 0, .int .i64 0] 158)) none))
  refine (date_any b v len n _ (by omega) HS1.out (by simp; omega)).mono ?_
  rintro e w1 ⟨y, m, d, h, q, s, hok, rfl, hsrc, hg⟩
  have HR1 := Lib.hid (blk_grown (Blk.new w 0 0 0 0 0 0) hg (by omega))
  have HG1 := Lib.hid (grown_trans (World.grownBy_alloc w (.cells #[.int .i64 0, .int .i64 0, .int .i64 0, .int .i64 0, .int .i64 0, .int .i64 0] 158) (some b)) hg)
  have hz1 : w.heap.size < w1.heap.size := by have := hg.size; simp at this; omega
  obtain ⟨⟨hy1, hy2⟩, _, ⟨hd1, hd2⟩, ⟨hh1, hh2⟩, _, ⟨hs1, hs2⟩⟩ := (ok_iff _).1 hok
  have hd3 := (mdays_le y m).2
  simp only at hy1 hy2 hd1 hd2 hh1 hh2 hs1 hs2
  have hd31 : d ≤ 31 := by omega
  have HX1 := Lib.hid (src_grown hsrc (grown_below ((Below.refl w1.heap.size w1).alloc (Nat.le_refl _) (.cells #[.int .i64 y, .int .i64 m, .int .i64 d, .int .i64 h, .int .i64 q, .int .i64 s] 158)) none))
  clear hsrc hg hok hd2 hd3
  go_wp2_with fail
  refine (next_small b v len _ _ 10 (by omega) (by omega) (by omega) HX1.out).mono ?_
  rintro e w2 ⟨r, rfl, hr, hsrc, hg⟩
  have HX2 := Lib.hid hsrc
  have hB1 : w1.heap.size ≠ b := by omega
  have HD2 := Lib.hid (blk_grown (Blk.new w1 y m d h q s) hg hB1)
  have HR2 := Lib.hid (blk_grown (HR1.out.alloc (.cells #[.int .i64 y, .int .i64 m, .int .i64 d, .int .i64 h, .int .i64 q, .int .i64 s] 158)) hg (by omega))
  have HG2 := Lib.hid (grown_trans (grown_trans HG1.out (World.grownBy_alloc w1 (.cells #[.int .i64 y, .int .i64 m, .int .i64 d, .int .i64 h, .int .i64 q, .int .i64 s] 158) (some b))) hg)
  clear hsrc hg
  rcases (show r = 0 ∨ r = 1 ∨ r = 2 ∨ r = 3 ∨ r = 4 ∨ 5 ≤ r by omega) with rfl | rfl | rfl | rfl | rfl | h5
  · clear hr
    go_wp2_with fail
    refine (next_pick b v len _ w2 [1600, 1601, 9999, 10000, 1900, 2000] 6 _ rfl rfl (by omega) (by omega) (by omega) HX2.out).mono ?_
    rintro e w3 ⟨r, z, rfl, hr, hz, hsrc, hg, hc⟩
    have hzb := pick_range [1600, 1601, 9999, 10000, 1900, 2000] (by decide) hz
    have hr6 : (r : Int) < 6 := by simp at hr; omega
    have hr0 : (0 : Int) ≤ r := by omega
    have HX3 := Lib.hid hsrc
    have HD3 := Lib.hid (blk_grown HD2.out hg hB1)
    have HR3 := Lib.hid (blk_grown HR2.out hg (by omega))
    have HG3 := Lib.hid (grown_trans HG2.out hg)
    have g0 := HR3.out.free 0
    have g1 := HR3.out.free 1
    have g2 := HR3.out.free 2
    have g3 := HR3.out.free 3
    have g4 := HR3.out.free 4
    have g5 := HR3.out.free 5
    obtain ⟨r0, r1, r2, r3, r4, r5⟩ := HR3.out.at
    have f0 := HD3.out.free 0
    have f1 := HD3.out.free 1
    have f2 := HD3.out.free 2
    have f3 := HD3.out.free 3
    have f4 := HD3.out.free 4
    have f5 := HD3.out.free 5
    obtain ⟨c0, c1, c2, c3, c4, c5⟩ := HD3.out.at
    clear hsrc hg hz hr
    go_wp2_with fail
    obtain ⟨q0, q1, q2, q3, q4, q5⟩ := ((HR3.out.other (B' := w1.heap.size) (i := 0) (v := .int .i64 z) (by omega)).put z m d h q s).at
    refine bodyPost_ret (v := .agg #[.int .i64 z, .int .i64 m, .int .i64 d, .int .i64 h, .int .i64 q, .int .i64 s]) (by simp [results, Tryz.results332, go_sem, q0, q1, q2, q3, q4, q5]) rfl ?_
    exact ⟨z, m, d, h, q, s, ⟨by omega, by omega⟩, ⟨by omega, by omega⟩, ⟨by omega, by omega⟩, ⟨by omega, by omega⟩, rfl, ⟨_, by omega, src_put6 (src_one HX3.out hB1 (HCODE.out _ (by omega)) 0 _) (by omega) (HCODE.out _ (by omega)) _ _ _ _ _ _⟩, grown_put6 (grown_one HG3.out (Nat.le_of_lt hz1) 0 _) (Nat.le_refl _) _ _ _ _ _ _⟩
  · clear hr
    go_wp2_with fail
    refine (next_pick b v len _ w2 [0, 2, 12, 13] 4 _ rfl rfl (by omega) (by omega) (by omega) HX2.out).mono ?_
    rintro e w3 ⟨r, z, rfl, hr, hz, hsrc, hg, hc⟩
    have hzb := pick_range [0, 2, 12, 13] (by decide) hz
    have hr6 : (r : Int) < 4 := by simp at hr; omega
    have hr0 : (0 : Int) ≤ r := by omega
    have HX3 := Lib.hid hsrc
    have HD3 := Lib.hid (blk_grown HD2.out hg hB1)
    have HR3 := Lib.hid (blk_grown HR2.out hg (by omega))
    have HG3 := Lib.hid (grown_trans HG2.out hg)
    have g0 := HR3.out.free 0
    have g1 := HR3.out.free 1
    have g2 := HR3.out.free 2
    have g3 := HR3.out.free 3
    have g4 := HR3.out.free 4
    have g5 := HR3.out.free 5
    obtain ⟨r0, r1, r2, r3, r4, r5⟩ := HR3.out.at
    have f0 := HD3.out.free 0
    have f1 := HD3.out.free 1
    have f2 := HD3.out.free 2
    have f3 := HD3.out.free 3
    have f4 := HD3.out.free 4
    have f5 := HD3.out.free 5
    obtain ⟨c0, c1, c2, c3, c4, c5⟩ := HD3.out.at
    clear hsrc hg hz hr
    go_wp2_with fail
    obtain ⟨q0, q1, q2, q3, q4, q5⟩ := ((HR3.out.other (B' := w1.heap.size) (i := 1) (v := .int .i64 z) (by omega)).put y z d h q s).at
    refine bodyPost_ret (v := .agg #[.int .i64 y, .int .i64 z, .int .i64 d, .int .i64 h, .int .i64 q, .int .i64 s]) (by simp [results, Tryz.results332, go_sem, q0, q1, q2, q3, q4, q5]) rfl ?_
    exact ⟨y, z, d, h, q, s, ⟨by omega, by omega⟩, ⟨by omega, by omega⟩, ⟨by omega, by omega⟩, ⟨by omega, by omega⟩, rfl, ⟨_, by omega, src_put6 (src_one HX3.out hB1 (HCODE.out _ (by omega)) 1 _) (by omega) (HCODE.out _ (by omega)) _ _ _ _ _ _⟩, grown_put6 (grown_one HG3.out (Nat.le_of_lt hz1) 1 _) (Nat.le_refl _) _ _ _ _ _ _⟩
  · clear hr
    go_wp2_with fail
    refine (next_pick b v len _ w2 [0, 28, 29, 30, 31, 32] 6 _ rfl rfl (by omega) (by omega) (by omega) HX2.out).mono ?_
    rintro e w3 ⟨r, z, rfl, hr, hz, hsrc, hg, hc⟩
    have hzb := pick_small [0, 28, 29, 30, 31, 32] (by decide) hz
    have hr6 : (r : Int) < 6 := by simp at hr; omega
    have hr0 : (0 : Int) ≤ r := by omega
    have HX3 := Lib.hid (src_one hsrc hB1 (HCODE.out _ (by omega)) 2 (.int .i64 z))
    have HD3 := Lib.hid (blk_grown HD2.out hg hB1)
    have HR3 := Lib.hid (blk_grown HR2.out hg (by omega))
    have HG3 := Lib.hid (grown_one (grown_trans HG2.out hg) (Nat.le_of_lt hz1) 2 (.int .i64 z))
    have HD3S := Lib.hid (HD3.out.day z)
    have HR3S := Lib.hid (HR3.out.other (B' := w1.heap.size) (i := 2) (v := .int .i64 z) (by omega))
    have f0 := HD3.out.free 0
    have f1 := HD3.out.free 1
    have f2 := HD3.out.free 2
    have f3 := HD3.out.free 3
    have f4 := HD3.out.free 4
    have f5 := HD3.out.free 5
    obtain ⟨c0, c1, c2, c3, c4, c5⟩ := HD3.out.at
    clear hsrc hg hz hr
    go_wp2_with fail
    refine (next_pick b v len _ _ [2, 4, 12] 3 _ rfl rfl (by omega) (by omega) (by omega) HX3.out).mono ?_
    rintro e w4 ⟨r2, z2, rfl, hr2, hz2, hsrc, hg, hc2⟩
    have hc3 : w4.cell? ⟨w3.heap.size, r2, none⟩ = some (.int .i64 z2) := by simpa [World.setCell] using hc2
    have HC3 := Lib.hid hc3
    clear hc2
    have hr6b : (r2 : Int) < 3 := by simp at hr2; omega
    have hr0b : (0 : Int) ≤ r2 := by omega
    have HX4 := Lib.hid hsrc
    have HD4 := Lib.hid (blk_grown HD3S.out hg hB1)
    have HR4 := Lib.hid (blk_grown HR3S.out hg (by omega))
    have HG4 := Lib.hid (grown_trans HG3.out hg)
    clear f0 f1 f2 f3 f4 f5 c0 c1 c2 c3 c4 c5 hc
    have g0 := HR4.out.free 0
    have g1 := HR4.out.free 1
    have g2 := HR4.out.free 2
    have g3 := HR4.out.free 3
    have g4 := HR4.out.free 4
    have g5 := HR4.out.free 5
    obtain ⟨r0, r1, r2, r3, r4, r5⟩ := HR4.out.at
    have f0 := HD4.out.free 0
    have f1 := HD4.out.free 1
    have f2 := HD4.out.free 2
    have f3 := HD4.out.free 3
    have f4 := HD4.out.free 4
    have f5 := HD4.out.free 5
    obtain ⟨c0, c1, c2, c3, c4, c5⟩ := HD4.out.at
    clear hsrc hg hz2 hr2
    go_wp2_with fail
    obtain ⟨q0, q1, q2, q3, q4, q5⟩ := ((HR4.out.other (B' := w1.heap.size) (i := 1) (v := .int .i64 z2) (by omega)).put y z2 z h q s).at
    refine bodyPost_ret (v := .agg #[.int .i64 y, .int .i64 z2, .int .i64 z, .int .i64 h, .int .i64 q, .int .i64 s]) (by simp [results, Tryz.results332, go_sem, q0, q1, q2, q3, q4, q5]) rfl ?_
    exact ⟨y, z2, z, h, q, s, ⟨by omega, by omega⟩, ⟨by omega, by omega⟩, ⟨by omega, by omega⟩, ⟨by omega, by omega⟩, rfl, ⟨_, by omega, src_put6 (src_one HX4.out hB1 (HCODE.out _ (by omega)) 1 _) (by omega) (HCODE.out _ (by omega)) _ _ _ _ _ _⟩, grown_put6 (grown_one HG4.out (Nat.le_of_lt hz1) 1 _) (Nat.le_refl _) _ _ _ _ _ _⟩
  · clear hr
    go_wp2_with fail
    refine (next_small b v len _ _ 26 (by omega) (by omega) (by omega) HX2.out).mono ?_
    rintro e w3 ⟨r, rfl, hr, hsrc, hg⟩
    have HX3 := Lib.hid hsrc
    have HD3 := Lib.hid (blk_grown HD2.out hg hB1)
    have HR3 := Lib.hid (blk_grown HR2.out hg (by omega))
    have HG3 := Lib.hid (grown_trans HG2.out hg)
    have g0 := HR3.out.free 0
    have g1 := HR3.out.free 1
    have g2 := HR3.out.free 2
    have g3 := HR3.out.free 3
    have g4 := HR3.out.free 4
    have g5 := HR3.out.free 5
    obtain ⟨r0, r1, r2, r3, r4, r5⟩ := HR3.out.at
    have f0 := HD3.out.free 0
    have f1 := HD3.out.free 1
    have f2 := HD3.out.free 2
    have f3 := HD3.out.free 3
    have f4 := HD3.out.free 4
    have f5 := HD3.out.free 5
    obtain ⟨c0, c1, c2, c3, c4, c5⟩ := HD3.out.at
    clear hsrc hg
    go_wp2_with fail
    obtain ⟨q0, q1, q2, q3, q4, q5⟩ := ((HR3.out.other (B' := w1.heap.size) (i := 3) (v := .int .i64 ((r : Int) - 1)) (by omega)).put y m d ((r : Int) - 1) q s).at
    refine bodyPost_ret (v := .agg #[.int .i64 y, .int .i64 m, .int .i64 d, .int .i64 ((r : Int) - 1), .int .i64 q, .int .i64 s]) (by simp [results, Tryz.results332, go_sem, q0, q1, q2, q3, q4, q5]) rfl ?_
    exact ⟨y, m, d, (r : Int) - 1, q, s, ⟨by omega, by omega⟩, ⟨by omega, by omega⟩, ⟨by omega, by omega⟩, ⟨by omega, by omega⟩, rfl, ⟨_, by omega, src_put6 (src_one HX3.out hB1 (HCODE.out _ (by omega)) 3 _) (by omega) (HCODE.out _ (by omega)) _ _ _ _ _ _⟩, grown_put6 (grown_one HG3.out (Nat.le_of_lt hz1) 3 _) (Nat.le_refl _) _ _ _ _ _ _⟩
  · clear hr
    go_wp2_with fail
    refine (next_small b v len _ _ 62 (by omega) (by omega) (by omega) HX2.out).mono ?_
    rintro e w3 ⟨r, rfl, hr, hsrc, hg⟩
    have HX3 := Lib.hid hsrc
    have HD3 := Lib.hid (blk_grown HD2.out hg hB1)
    have HR3 := Lib.hid (blk_grown HR2.out hg (by omega))
    have HG3 := Lib.hid (grown_trans HG2.out hg)
    have g0 := HR3.out.free 0
    have g1 := HR3.out.free 1
    have g2 := HR3.out.free 2
    have g3 := HR3.out.free 3
    have g4 := HR3.out.free 4
    have g5 := HR3.out.free 5
    obtain ⟨r0, r1, r2, r3, r4, r5⟩ := HR3.out.at
    have f0 := HD3.out.free 0
    have f1 := HD3.out.free 1
    have f2 := HD3.out.free 2
    have f3 := HD3.out.free 3
    have f4 := HD3.out.free 4
    have f5 := HD3.out.free 5
    obtain ⟨c0, c1, c2, c3, c4, c5⟩ := HD3.out.at
    clear hsrc hg
    go_wp2_with fail
    obtain ⟨q0, q1, q2, q3, q4, q5⟩ := ((HR3.out.other (B' := w1.heap.size) (i := 5) (v := .int .i64 ((r : Int) - 1)) (by omega)).put y m d h q ((r : Int) - 1)).at
    refine bodyPost_ret (v := .agg #[.int .i64 y, .int .i64 m, .int .i64 d, .int .i64 h, .int .i64 q, .int .i64 ((r : Int) - 1)]) (by simp [results, Tryz.results332, go_sem, q0, q1, q2, q3, q4, q5]) rfl ?_
    exact ⟨y, m, d, h, q, (r : Int) - 1, ⟨by omega, by omega⟩, ⟨by omega, by omega⟩, ⟨by omega, by omega⟩, ⟨by omega, by omega⟩, rfl, ⟨_, by omega, src_put6 (src_one HX3.out hB1 (HCODE.out _ (by omega)) 5 _) (by omega) (HCODE.out _ (by omega)) _ _ _ _ _ _⟩, grown_put6 (grown_one HG3.out (Nat.le_of_lt hz1) 5 _) (Nat.le_refl _) _ _ _ _ _ _⟩
  · clear hr
    have g0 := HR2.out.free 0
    have g1 := HR2.out.free 1
    have g2 := HR2.out.free 2
    have g3 := HR2.out.free 3
    have g4 := HR2.out.free 4
    have g5 := HR2.out.free 5
    obtain ⟨r0, r1, r2, r3, r4, r5⟩ := HR2.out.at
    have f0 := HD2.out.free 0
    have f1 := HD2.out.free 1
    have f2 := HD2.out.free 2
    have f3 := HD2.out.free 3
    have f4 := HD2.out.free 4
    have f5 := HD2.out.free 5
    obtain ⟨c0, c1, c2, c3, c4, c5⟩ := HD2.out.at
    have z0 : ((r : Int) == 0) = false := by rw [beq_eq_false_iff_ne]; omega
    have z1 : ((r : Int) == 1) = false := by rw [beq_eq_false_iff_ne]; omega
    have z2 : ((r : Int) == 2) = false := by rw [beq_eq_false_iff_ne]; omega
    have z3 : ((r : Int) == 3) = false := by rw [beq_eq_false_iff_ne]; omega
    have z4 : ((r : Int) == 4) = false := by rw [beq_eq_false_iff_ne]; omega
    go_wp2_with fail
    obtain ⟨q0, q1, q2, q3, q4, q5⟩ := (HR2.out.put y m d h q s).at
    refine bodyPost_ret (v := .agg #[.int .i64 y, .int .i64 m, .int .i64 d, .int .i64 h, .int .i64 q, .int .i64 s]) (by simp [results, Tryz.results332, go_sem, q0, q1, q2, q3, q4, q5]) rfl ?_
    exact ⟨y, m, d, h, q, s, ⟨by omega, by omega⟩, ⟨by omega, by omega⟩, ⟨by omega, by omega⟩, ⟨by omega, by omega⟩, rfl, ⟨_, by omega, src_put6 HX2.out (by omega) (HCODE.out _ (by omega)) _ _ _ _ _ _⟩, grown_put6 HG2.out (Nat.le_refl _) _ _ _ _ _ _⟩
end Go.Proofs.YtpdonghdnaehhaaGreatDoor

namespace Go.Proofs.YtpdonghdnaehhaaGreatDoor
open Go.ChangeShapes Go.WideShapes Go.ChangeAt Go.WideMaps Go.WideElems Go.RowKit

def hostTexts : List ByteArray := [⟨#[97, 46, 101, 120, 97, 109, 112, 108, 101]⟩, ⟨#[98, 46, 97, 46, 101, 120, 97, 109, 112, 108, 101]⟩, ⟨#[99, 46, 98, 46, 97, 46, 101, 120, 97, 109, 112, 108, 101]⟩, ⟨#[101, 120, 97, 109, 112, 108, 101]⟩, ⟨#[120, 46, 99, 111, 46, 99, 107]⟩, ⟨#[119, 119, 119, 46, 99, 107]⟩, ⟨#[97, 46, 99, 107]⟩, ⟨#[49, 48, 46, 48, 46, 48, 46, 49]⟩, ⟨#[120, 97, 46, 101, 120, 97, 109, 112, 108, 101]⟩]
def oddTexts : List ByteArray := [⟨#[]⟩, ⟨#[46]⟩, ⟨#[65, 46, 69, 120, 97, 109, 112, 108, 101]⟩, ⟨#[97, 46, 101, 120, 97, 109, 112, 108, 101, 46]⟩, ⟨#[97, 46, 46, 98]⟩, ⟨#[46, 97]⟩, ⟨#[97, 46, 101, 120, 97, 109, 112, 108, 101, 46, 46]⟩, ⟨#[97, 32, 98]⟩, ⟨#[49, 46, 50, 46, 51, 46, 52]⟩, ⟨#[49, 46, 50, 46, 51, 46, 50, 53, 54]⟩, ⟨#[49, 46, 50, 46, 51]⟩, ⟨#[48, 49, 46, 50, 46, 51, 46, 52]⟩, ⟨#[97, 46, 98, 46, 99, 46, 100, 46, 101, 46, 102]⟩, ⟨#[97, 46, 98, 46, 99, 46, 100, 46, 101, 46, 102, 46, 103]⟩, ⟨#[97, 95, 98, 45, 99, 46, 120]⟩, ⟨#[97, 97, 97, 97, 97, 97, 97, 97, 97, 97, 97, 97, 97, 97, 97, 97, 97, 97, 97, 97, 97, 97, 97, 97, 97, 97, 97, 97, 97, 97, 97, 97, 97, 97, 97, 97, 97, 97, 97, 97]⟩, ⟨#[97, 97, 97, 97, 97, 97, 97, 97, 97, 97, 97, 97, 97, 97, 97, 97, 97, 97, 97, 97, 97, 97, 97, 97, 97, 97, 97, 97, 97, 97, 97, 97, 97, 97, 97, 97, 97, 97, 97, 97, 97]⟩, ⟨#[128]⟩, ⟨#[97, 47, 98]⟩]
def midTexts : List ByteArray := [⟨#[46]⟩, ⟨#[65]⟩, ⟨#[45]⟩, ⟨#[32]⟩, ⟨#[49]⟩]
theorem host_sizes : ∀ s ∈ hostTexts, s.size ≤ 13 := by decide +kernel
theorem odd_sizes : ∀ s ∈ oddTexts, s.size ≤ 41 := by decide +kernel
theorem mid_sizes : ∀ s ∈ midTexts, s.size ≤ 1 := by decide +kernel
theorem string_add (a b : ByteArray) (h : a.size + b.size ≤ 1000000) : Op.stringOp .add a b = pure (.string (a ++ b)) := by
  have hm : IntKind.i64.max = 9223372036854775807 := by decide
  unfold Op.stringOp
  simp only [hm]
  rw [if_neg (by omega)]
set_option maxRecDepth 100000 in
theorem host_any (b : Nat) (v : Value) (len n : Nat) (w : World) (hn : n < 900000) (h : Src b v len n w) (hb : b < w.heap.size) : Calls Tryz.prog 116 #[.pointer (some ⟨b, 0, none⟩)] w (SrcText b v len (n + 1) hostTexts w) := by
  have HS := Lib.hid h
  clear h
  go_enter Tryz.func116, Tryz.ntmps116
  go_wp2_with (go_at_call 183; refine (pick_new b v len n w hostTexts _ _ _ rfl rfl (by decide) (by decide) (by omega) HS.out hb).mono ?_; rintro e w' ⟨s, hs, rfl, hsrc, hg⟩; have HX := Lib.hid hsrc; have HG := Lib.hid hg; have HM := Lib.hid hs; clear hsrc hg hs)
  go_ret
  exact ⟨s, HM.out, rfl, HX.out, HG.out⟩
def AnyPost (b : Nat) (w : World) (e : Ending) (w' : World) : Prop := ∃ s : ByteArray, e = .returned (.string s) ∧ s.size ≤ 50 ∧ w.grownBy w' (some b)
def HostPost (w : World) (e : Ending) (w' : World) : Prop := ∃ s : ByteArray, e = .returned (.string s) ∧ s.size ≤ 50 ∧ Below w.heap.size w w'
theorem hostDrawn_any (v : Value) (len : Nat) (w : World) (h : CodeIn w v len) : Calls Tryz.prog 41 #[v] w (HostPost w) := by
  have HC := Lib.hid h
  clear h
  go_enter Tryz.func41, Tryz.ntmps41
  go_wp2_with (first
    | (go_at_call 64; refine (source_any _ _ _ HC.out).mono ?_; rintro e w1 ⟨rfl, hsrc, hb⟩; have HX := Lib.hid hsrc; have HB := Lib.hid hb; clear hsrc hb)
    | (go_at_call 116; refine (host_any _ _ _ _ _ (by omega) HX.out (by have := Src.lt HX.out; omega)).mono ?_; rintro e w2 ⟨s, hs, rfl, _, hg⟩; have HG := Lib.hid hg; have HM := Lib.hid (host_sizes s hs); clear hg hs))
  go_ret
  exact ⟨s, rfl, Nat.le_trans HM.out (by decide), below_of_own HB.out HG.out⟩
end Go.Proofs.YtpdonghdnaehhaaGreatDoor
