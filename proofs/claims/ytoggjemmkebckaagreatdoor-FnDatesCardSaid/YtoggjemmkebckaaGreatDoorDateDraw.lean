/- The model's drawn date: some valid date. The source has been asked fewer than 900000 times. -/
import Derived.Test.YtoggjemmkebckaaGreatDoorDraws
import Derived.Test.YtoggjemmkebckaaGreatDoorDateOf
namespace Go.Proofs.YtoggjemmkebckaaGreatDoor
open Go.ChangeShapes Go.WideShapes Go.ChangeAt Go.WideMaps Go.WideElems Go.RowKit

theorem srcNum_of {b : Nat} {v : Value} {len n hi : Nat} {w w' : World} {x : Int} (h0 : 0 ≤ x) (h1 : x ≤ hi) (hs : Src b v len n w') (hg : w.grownBy w' (some b)) : SrcNum b v len n hi w (.returned (.int .i64 x)) w' := srcNum_mk h0 h1 hs hg
set_option maxHeartbeats 1000000 in
set_option maxRecDepth 100000 in
theorem next_big (b : Nat) (v : Value) (len n : Nat) (w : World) (m : Nat) (hm : 257 ≤ m) (hm2 : m ≤ 16777216) (hn : n < 999990) (h : Src b v len n w) : Calls Tryz.prog 81 #[.pointer (some ⟨b, 0, none⟩), .int .i64 m] w (SrcNum b v len (n + 1 + 1 + 1) (m - 1) w) := by
  have HS := Lib.hid h
  clear h
  go_enter Tryz.func81, Tryz.ntmps81
  go_wp2_with fail
  refine (byte_any b v len n _ (by omega) HS.out).mono ?_
  rintro e w1 ⟨r1, rfl, hr1, hsrc, hg⟩
  have HX1 := Lib.hid hsrc
  have HG1 := Lib.hid hg
  clear hsrc hg
  go_wp2_with fail
  refine (byte_any b v len (n + 1) _ (by omega) HX1.out).mono ?_
  rintro e w2 ⟨r2, rfl, hr2, hsrc, hg⟩
  have HX2 := Lib.hid hsrc
  have HG2 := Lib.hid (grown_trans HG1.out hg)
  clear hsrc hg
  go_wp2_with fail
  refine (byte_any b v len (n + 1 + 1) _ (by omega) HX2.out).mono ?_
  rintro e w3 ⟨r3, rfl, hr3, hsrc, hg⟩
  have HX3 := Lib.hid hsrc
  have HG3 := Lib.hid (grown_trans HG2.out hg)
  clear hsrc hg
  go_wp2_with fail
  go_ret
  exact srcNum_mk (x := ((r1 : Int) * 65536 + r2 * 256 + r3) % m) (Int.emod_nonneg _ (by omega)) (by have := Int.emod_lt_of_pos ((r1 : Int) * 65536 + r2 * 256 + r3) (show (0 : Int) < m by omega); omega) HX3.out HG3.out
def DrawnDate (b : Nat) (v : Value) (len n : Nat) (w : World) (e : Ending) (w' : World) : Prop :=
  ∃ y m d h q s : Int, okB ⟨y, m, d, h, q, s⟩ = true ∧ e = .returned (.agg #[.int .i64 y, .int .i64 m, .int .i64 d, .int .i64 h, .int .i64 q, .int .i64 s]) ∧ Src b v len n w' ∧ w.grownBy w' (some b)
theorem src_grown {b : Nat} {v : Value} {len n : Nat} {w w' : World} (h : Src b v len n w) (hg : w.grownBy w' none) : Src b v len n w' := by
  have hlt := h.lt
  obtain ⟨hc, seed, h0, h1, hb⟩ := h
  have hg2 : w.grownBy w' (some b) := ⟨hg.os, hg.tape, hg.output, hg.size, fun k hk _ => hg.block k hk (by simp)⟩
  exact src_of hc hg2 h0 h1 ((hg.block b hlt (by simp)).trans hb)
theorem blk_stays {w w' : World} {B : Nat} {y m d h n s : Int} (hp : Blk w B y m d h n s) (hb : Below w.heap.size w w') : Blk w' B y m d h n s := (hb.block B hp.lt).trans hp
theorem grown_below {w w' : World} (h : Below w.heap.size w w') (r : Option Nat) : w.grownBy w' r := ⟨h.os, h.tape, h.output, h.size, fun k hk _ => h.block k hk⟩
theorem blk_grown {w w' : World} {B C : Nat} {y m d h n s : Int} (hb : Blk w B y m d h n s) (hg : w.grownBy w' (some C)) (hne : B ≠ C) : Blk w' B y m d h n s := (hg.block B hb.lt (by simpa using hne)).trans hb
theorem grown_put6 {w wr : World} {B b : Nat} (hg : w.grownBy wr (some b)) (hB : w.heap.size ≤ B) (y' m' d' h' n' s' : Int) : w.grownBy ((((((wr.setCell ⟨B, 0, none⟩ (.int .i64 y')).setCell ⟨B, 1, none⟩ (.int .i64 m')).setCell ⟨B, 2, none⟩ (.int .i64 d')).setCell ⟨B, 3, none⟩ (.int .i64 h')).setCell ⟨B, 4, none⟩ (.int .i64 n')).setCell ⟨B, 5, none⟩ (.int .i64 s')) (some b) := by
  have one : ∀ {wr : World} (i : Nat) (x : Value), w.grownBy wr (some b) → w.grownBy (wr.setCell ⟨B, i, none⟩ x) (some b) := fun i x h =>
    ⟨h.os, h.tape, h.output, by simpa [World.setCell] using h.size, fun k hk hr => (Below.heap_setCell _ _ _ _ (by show k ≠ B; omega)).trans (h.block k hk hr)⟩
  exact one _ _ (one _ _ (one _ _ (one _ _ (one _ _ (one _ _ hg)))))
theorem src_put6 {wr : World} {b : Nat} {v : Value} {len n : Nat} {B : Nat} (h : Src b v len n wr) (hB : B ≠ b) (hcode : ∀ (cb off : Nat) (cap : Nat), v = .slice (some ⟨cb, off, none⟩) len cap → 0 < len → cb ≠ B) (y' m' d' h' n' s' : Int) : Src b v len n ((((((wr.setCell ⟨B, 0, none⟩ (.int .i64 y')).setCell ⟨B, 1, none⟩ (.int .i64 m')).setCell ⟨B, 2, none⟩ (.int .i64 d')).setCell ⟨B, 3, none⟩ (.int .i64 h')).setCell ⟨B, 4, none⟩ (.int .i64 n')).setCell ⟨B, 5, none⟩ (.int .i64 s')) := by
  have one : ∀ {wr : World} (i : Nat) (x : Value), Src b v len n wr → Src b v len n (wr.setCell ⟨B, i, none⟩ x) := by
    intro wr i x h
    obtain ⟨⟨hl, a, cap, hv, hc⟩, seed, h0, h1, hb⟩ := h
    refine ⟨⟨hl, a, cap, hv, fun hp => ?_⟩, seed, h0, h1, (Below.heap_setCell _ _ _ _ (by show b ≠ B; exact Ne.symm hB)).trans hb⟩
    obtain ⟨cb, off, rfl, hne, hlt, hz⟩ := hc hp
    have hcb := hcode cb off cap hv hp
    refine ⟨cb, off, rfl, hne, by simpa [World.setCell] using hlt, fun j hj => ?_⟩
    obtain ⟨z, z0, z1, hz⟩ := hz j hj
    exact ⟨z, z0, z1, (World.cell?_setCell_far _ _ _ _ (by simpa using Ne.symm hcb)).trans hz⟩
  exact one _ _ (one _ _ (one _ _ (one _ _ (one _ _ (one _ _ h)))))
set_option maxHeartbeats 1000000 in
set_option maxRecDepth 100000 in
theorem date_any (b : Nat) (v : Value) (len n : Nat) (w : World) (hn : n < 900000) (h : Src b v len n w) (hb : b < w.heap.size) : Calls Tryz.prog 38 #[.pointer (some ⟨b, 0, none⟩)] w (DrawnDate b v len (n + 1 + 1 + 1 + 1 + 1 + 1) w) := by
  have HS := Lib.hid h
  clear h
  go_enter Tryz.func38, Tryz.ntmps38
  go_wp2_with fail
  have HS1 := Lib.hid (src_grown HS.out (grown_below ((Below.refl w.heap.size w).alloc (Nat.le_refl _) (.cells #[.int .i64 0, .int .i64 0, .int .i64 0, .int .i64 0, .int .i64 0, .int .i64 0] 24)) none))
  refine (next_big b v len n _ 9000 (by omega) (by omega) (by omega) HS1.out).mono ?_
  rintro e w1 ⟨r1, rfl, hr1, hsrc, hg⟩
  have HX1 := Lib.hid hsrc
  have HR1 := Lib.hid (blk_grown (Blk.new w 0 0 0 0 0 0) hg (by omega))
  have HG1 := Lib.hid (grown_trans (World.grownBy_alloc w (.cells #[.int .i64 0, .int .i64 0, .int .i64 0, .int .i64 0, .int .i64 0, .int .i64 0] 24) (some b)) hg)
  clear hsrc hg
  go_wp2_with fail
  refine (next_big b v len _ _ 86400 (by omega) (by omega) (by omega) HX1.out).mono ?_
  rintro e w2 ⟨r2, rfl, hr2, hsrc, hg⟩
  have HX2 := Lib.hid hsrc
  have HR2 := Lib.hid (blk_grown HR1.out hg (by omega))
  have HG2 := Lib.hid (grown_trans HG1.out hg)
  clear hsrc hg
  go_wp2_with fail
  refine (specOf _ _ (by omega) (by omega)).mono ?_
  rintro e w3 ⟨y, m, d, h, q, s, hdate, rfl, hb3⟩
  have HOK := Lib.hid (hdate.ok (by omega))
  have HX3 := Lib.hid (src_grown HX2.out (grown_below hb3 none))
  have hres := blk_stays HR2.out hb3
  have HR3 := Lib.hid hres
  have HG3 := Lib.hid (grown_trans HG2.out (grown_below hb3 (some b)))
  have f0 := hres.free 0
  have f1 := hres.free 1
  have f2 := hres.free 2
  have f3 := hres.free 3
  have f4 := hres.free 4
  have f5 := hres.free 5
  obtain ⟨c0, c1, c2, c3, c4, c5⟩ := hres.at
  clear hres hb3 hdate
  go_wp2_with fail
  obtain ⟨q0, q1, q2, q3, q4, q5⟩ := (HR3.out.put y m d h q s).at
  refine bodyPost_ret (v := .agg #[.int .i64 y, .int .i64 m, .int .i64 d, .int .i64 h, .int .i64 q, .int .i64 s]) (by simp [results, Tryz.results38, go_sem, q0, q1, q2, q3, q4, q5]) rfl ?_
  refine ⟨y, m, d, h, q, s, HOK.out, rfl, src_put6 HX3.out (by omega) (fun cb off cap hv hp => ?_) _ _ _ _ _ _, grown_put6 HG3.out (Nat.le_refl _) _ _ _ _ _ _⟩
  obtain ⟨⟨_, a, cap', hv', hc⟩, _⟩ := HS.out
  obtain ⟨cb', off', rfl, _, hlt, _⟩ := hc hp
  rw [hv'] at hv
  simp only [Value.slice.injEq, Option.some.injEq, Addr.mk.injEq] at hv
  omega
def SrcBool (b : Nat) (v : Value) (len n : Nat) (w : World) (e : Ending) (w' : World) : Prop := ∃ r : Bool, e = .returned (.bool r) ∧ Src b v len n w' ∧ w.grownBy w' (some b)
theorem chance_any (b : Nat) (v : Value) (len n : Nat) (w : World) (m : Nat) (hm : 2 ≤ m) (hm2 : m ≤ 256) (hn : n < 1000000) (h : Src b v len n w) : Calls Tryz.prog 95 #[.pointer (some ⟨b, 0, none⟩), .int .i64 m] w (SrcBool b v len (n + 1) w) := by
  have HS := Lib.hid h
  clear h
  go_enter Tryz.func95, Tryz.ntmps95
  go_wp2_with fail
  refine (next_small b v len n _ m hm hm2 hn HS.out).mono ?_
  rintro e w1 ⟨r1, rfl, hr1, hsrc, hg⟩
  have HX1 := Lib.hid hsrc
  have HG1 := Lib.hid hg
  clear hsrc hg
  go_wp2_with fail
  go_ret
  exact ⟨_, rfl, HX1.out, HG1.out⟩
end Go.Proofs.YtoggjemmkebckaaGreatDoor
