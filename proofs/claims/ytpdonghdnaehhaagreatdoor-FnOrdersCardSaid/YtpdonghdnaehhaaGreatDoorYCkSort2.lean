/- A cookie copied; cookies sorted by the program, fewer than 20 of them. -/
import Derived.Test.YtpdonghdnaehhaaGreatDoorYCkSort
import Derived.Test.YtpdonghdnaehhaaGreatDoorYGb
import Derived.RegionTactic
namespace Go.Proofs.YtpdonghdnaehhaaGreatDoor
open Go.ChangeShapes Go.WideShapes Go.ChangeAt Go.WideMaps Go.WideElems Go.RowKit

def zck : Ck := ⟨0, ⟨#[]⟩, ⟨#[]⟩, ⟨#[]⟩, ⟨#[]⟩, false, false, false, 0, 0, 0, 0⟩
theorem CkB.drew {w : World} {B : Nat} {q : Ck} (h : CkB w B q) : CkB w.drew B q := h
theorem below_of_drew {B : Nat} {w w' : World} (h : Below B w.drew w') : Below B w w' := ⟨h.os, h.tape, h.output, h.size, h.block⟩
theorem CkB.same1 {w : World} {B : Nat} {q : Ck} (h : CkB w B q) : CkB (w.setCell ⟨B, 1, none⟩ (.string q.n)) B q := h.set1 q.n
theorem CkB.same2 {w : World} {B : Nat} {q : Ck} (h : CkB w B q) : CkB (w.setCell ⟨B, 2, none⟩ (.string q.v)) B q := h.set2 q.v
theorem CkB.same3 {w : World} {B : Nat} {q : Ck} (h : CkB w B q) : CkB (w.setCell ⟨B, 3, none⟩ (.string q.d)) B q := h.set3 q.d
theorem CkB.same4 {w : World} {B : Nat} {q : Ck} (h : CkB w B q) : CkB (w.setCell ⟨B, 4, none⟩ (.string q.p)) B q := h.set4 q.p
def ClRel (w : World) (q : Ck) (wx : World) : Prop := CkB wx w.heap.size q ∧ CkB wx (w.heap.size + 1) zck ∧ Below w.heap.size w wx
theorem ClRel.one {w wx : World} {q : Ck} (h : ClRel w q wx) : ClRel w q (wx.setCell ⟨w.heap.size, 1, none⟩ (.string q.n)) := ⟨h.1.same1, h.2.1.other (by omega), h.2.2.setCell (p := ⟨w.heap.size, 1, none⟩) (Nat.le_refl _) _⟩
theorem ClRel.two {w wx : World} {q : Ck} (h : ClRel w q wx) : ClRel w q (wx.setCell ⟨w.heap.size, 2, none⟩ (.string q.v)) := ⟨h.1.same2, h.2.1.other (by omega), h.2.2.setCell (p := ⟨w.heap.size, 2, none⟩) (Nat.le_refl _) _⟩
theorem ClRel.three {w wx : World} {q : Ck} (h : ClRel w q wx) : ClRel w q (wx.setCell ⟨w.heap.size, 3, none⟩ (.string q.d)) := ⟨h.1.same3, h.2.1.other (by omega), h.2.2.setCell (p := ⟨w.heap.size, 3, none⟩) (Nat.le_refl _) _⟩
theorem ClRel.four {w wx : World} {q : Ck} (h : ClRel w q wx) : ClRel w q (wx.setCell ⟨w.heap.size, 4, none⟩ (.string q.p)) := ⟨h.1.same4, h.2.1.other (by omega), h.2.2.setCell (p := ⟨w.heap.size, 4, none⟩) (Nat.le_refl _) _⟩
set_option maxHeartbeats 4000000 in
set_option maxRecDepth 100000 in
theorem cloneCk_any (q : Ck) (w : World) (h1 : q.n.size ≤ 65536) (h2 : q.v.size ≤ 65536) (h3 : q.d.size ≤ 65536) (h4 : q.p.size ≤ 65536) : Calls Tryz.prog 108 #[.agg #[.int .i64 q.i, .string q.n, .string q.v, .string q.d, .string q.p, .bool q.ho, .bool q.sc, .bool q.ht, .int .i64 q.s, .int .i64 q.x, .int .i64 q.m, .int .i64 q.u]] w fun e w' => e = .returned (.agg #[.int .i64 q.i, .string q.n, .string q.v, .string q.d, .string q.p, .bool q.ho, .bool q.sc, .bool q.ht, .int .i64 q.s, .int .i64 q.x, .int .i64 q.m, .int .i64 q.u]) ∧ Below w.heap.size w w' := by
  have P0 := Lib.hid ((CkB.new w q).alloc (.cells #[.int .i64 0, .string ⟨#[]⟩, .string ⟨#[]⟩, .string ⟨#[]⟩, .string ⟨#[]⟩, .bool false, .bool false, .bool false, .int .i64 0, .int .i64 0, .int .i64 0, .int .i64 0] 41))
  have Z0 : Hid (CkB ((w.alloc (.cells #[.int .i64 q.i, .string q.n, .string q.v, .string q.d, .string q.p, .bool q.ho, .bool q.sc, .bool q.ht, .int .i64 q.s, .int .i64 q.x, .int .i64 q.m, .int .i64 q.u] 41)).alloc (.cells #[.int .i64 0, .string ⟨#[]⟩, .string ⟨#[]⟩, .string ⟨#[]⟩, .string ⟨#[]⟩, .bool false, .bool false, .bool false, .int .i64 0, .int .i64 0, .int .i64 0, .int .i64 0] 41)) (w.heap.size + 1) zck) := Lib.hid (two_new w q zck)
  have HB0 : Hid (Below w.heap.size w ((w.alloc (.cells #[.int .i64 q.i, .string q.n, .string q.v, .string q.d, .string q.p, .bool q.ho, .bool q.sc, .bool q.ht, .int .i64 q.s, .int .i64 q.x, .int .i64 q.m, .int .i64 q.u] 41)).alloc (.cells #[.int .i64 0, .string ⟨#[]⟩, .string ⟨#[]⟩, .string ⟨#[]⟩, .string ⟨#[]⟩, .bool false, .bool false, .bool false, .int .i64 0, .int .i64 0, .int .i64 0, .int .i64 0] 41))) := Lib.hid (((Below.refl _ _).alloc (Nat.le_refl _) _).alloc (by simp) _)
  have Q0 := P0
  obtain ⟨c0, c1, c2, c3, c4, c5, c6, c7, c8, c9, c10, c11⟩ := P0.out.at
  have f1 := P0.out.free 1
  have f2 := P0.out.free 2
  go_enter Tryz.func108, Tryz.ntmps108
  go_wp2_with fail
  go_cut [] (fun wx => ClRel w q wx)
  case first =>
    go_region_with (first | (go_at_call 167; with_reducible refine (clone_any q.n _ h1).mono ?_; rintro e w1 ⟨rfl, hb⟩; have hP := P0.out.drew.stays hb; have P1 := Lib.hid hP; have Z1 := Lib.hid (Z0.out.drew.stays hb); have HB1 := Lib.hid (HB0.out.drew.trans (hb.mono HB0.out.drew.size)); obtain ⟨d0, d1, d2, d3, d4, d5, d6, d7, d8, d9, d10, d11⟩ := hP.at; have fd1 := hP.free 1; have fd2 := hP.free 2; clear hb hP) | (go_at_call 167; with_reducible refine (clone_any q.v _ h2).mono ?_; rintro e w2 ⟨rfl, hb⟩; have hP := P1.out.stays hb; have P2 := Lib.hid hP; have Z2 := Lib.hid (Z1.out.stays hb); have HB2 := Lib.hid (HB1.out.trans (hb.mono HB1.out.size)); obtain ⟨e0, e1, e2, e3, e4, e5, e6, e7, e8, e9, e10, e11⟩ := hP.at; have fe1 := hP.free 1; have fe2 := hP.free 2; have fe3 := hP.free 3; have fe4 := hP.free 4; clear hb hP))
    all_goals
      go_wp2_with fail
      go_meet
      have h : ClRel w q w2 := ⟨P2.out, Z2.out, HB2.out⟩
      first | exact h.one.two | exact h.two.one
  case rest =>
    obtain ⟨hp, hz, hb⟩ := hcut
    clear c0 c1 c2 c3 c4 c5 c6 c7 c8 c9 c10 c11 f1 f2 P0 Z0 HB0 Q0
    have P0 := Lib.hid hp
    have Z0 := Lib.hid hz
    have HB0 := Lib.hid hb
    obtain ⟨c0, c1, c2, c3, c4, c5, c6, c7, c8, c9, c10, c11⟩ := hp.at
    have f3 := hp.free 3
    have f4 := hp.free 4
    clear hp hz hb
    go_wp2_with fail
    go_cut [] (fun wx => ClRel w q wx)
    case first =>
      go_region_with (first | (go_at_call 167; with_reducible refine (clone_any q.d _ h3).mono ?_; rintro e w1 ⟨rfl, hb⟩; have hP := P0.out.drew.stays hb; have P1 := Lib.hid hP; have Z1 := Lib.hid (Z0.out.drew.stays hb); have HB1 := Lib.hid (HB0.out.drew.trans (hb.mono HB0.out.drew.size)); obtain ⟨d0, d1, d2, d3, d4, d5, d6, d7, d8, d9, d10, d11⟩ := hP.at; have fd3 := hP.free 3; have fd4 := hP.free 4; clear hb hP) | (go_at_call 167; with_reducible refine (clone_any q.p _ h4).mono ?_; rintro e w2 ⟨rfl, hb⟩; have hP := P1.out.stays hb; have P2 := Lib.hid hP; have Z2 := Lib.hid (Z1.out.stays hb); have HB2 := Lib.hid (HB1.out.trans (hb.mono HB1.out.size)); obtain ⟨e0, e1, e2, e3, e4, e5, e6, e7, e8, e9, e10, e11⟩ := hP.at; have fe3 := hP.free 3; have fe4 := hP.free 4; clear hb hP))
      all_goals
        go_wp2_with fail
        go_meet
        have h : ClRel w q w2 := ⟨P2.out, Z2.out, HB2.out⟩
        first | exact h.three.four | exact h.four.three
    case rest =>
      obtain ⟨hp, hz, hb⟩ := hcut
      clear c0 c1 c2 c3 c4 c5 c6 c7 c8 c9 c10 c11 f3 f4 P0 Z0 HB0
      have P0 := Lib.hid hp
      have HB0 := Lib.hid hb
      obtain ⟨c0, c1, c2, c3, c4, c5, c6, c7, c8, c9, c10, c11⟩ := hp.at
      obtain ⟨d0, d1, d2, d3, d4, d5, d6, d7, d8, d9, d10, d11⟩ := hz.at
      have g0 := hz.free 0
      have g1 := hz.free 1
      have g2 := hz.free 2
      have g3 := hz.free 3
      have g4 := hz.free 4
      have g5 := hz.free 5
      have g6 := hz.free 6
      have g7 := hz.free 7
      have g8 := hz.free 8
      have g9 := hz.free 9
      have g10 := hz.free 10
      have g11 := hz.free 11
      have HZ := Lib.hid hz
      clear hp hz hb
      go_wp2_with fail
      have hk := ((((((((((((HZ.out.set0 q.i).set1 q.n).set2 q.v).set3 q.d).set4 q.p).set5 q.ho).set6 q.sc).set7 q.ht).set8 q.s).set9 q.x).set10 q.m).set11 q.u)
      obtain ⟨k0, k1, k2, k3, k4, k5, k6, k7, k8, k9, k10, k11⟩ := hk.at
      refine bodyPost_ret (v := .agg #[.int .i64 q.i, .string q.n, .string q.v, .string q.d, .string q.p, .bool q.ho, .bool q.sc, .bool q.ht, .int .i64 q.s, .int .i64 q.x, .int .i64 q.m, .int .i64 q.u]) (by simp [results, Tryz.results108, go_sem, k0, k1, k2, k3, k4, k5, k6, k7, k8, k9, k10, k11]) rfl ⟨rfl, ((((((((((((HB0.out.setCell (p := ⟨w.heap.size + 1, 0, none⟩) (by show w.heap.size ≤ w.heap.size + 1; omega) _).setCell (p := ⟨w.heap.size + 1, 1, none⟩) (by show w.heap.size ≤ w.heap.size + 1; omega) _).setCell (p := ⟨w.heap.size + 1, 2, none⟩) (by show w.heap.size ≤ w.heap.size + 1; omega) _).setCell (p := ⟨w.heap.size + 1, 3, none⟩) (by show w.heap.size ≤ w.heap.size + 1; omega) _).setCell (p := ⟨w.heap.size + 1, 4, none⟩) (by show w.heap.size ≤ w.heap.size + 1; omega) _).setCell (p := ⟨w.heap.size + 1, 5, none⟩) (by show w.heap.size ≤ w.heap.size + 1; omega) _).setCell (p := ⟨w.heap.size + 1, 6, none⟩) (by show w.heap.size ≤ w.heap.size + 1; omega) _).setCell (p := ⟨w.heap.size + 1, 7, none⟩) (by show w.heap.size ≤ w.heap.size + 1; omega) _).setCell (p := ⟨w.heap.size + 1, 8, none⟩) (by show w.heap.size ≤ w.heap.size + 1; omega) _).setCell (p := ⟨w.heap.size + 1, 9, none⟩) (by show w.heap.size ≤ w.heap.size + 1; omega) _).setCell (p := ⟨w.heap.size + 1, 10, none⟩) (by show w.heap.size ≤ w.heap.size + 1; omega) _).setCell (p := ⟨w.heap.size + 1, 11, none⟩) (by show w.heap.size ≤ w.heap.size + 1; omega) _)⟩
end Go.Proofs.YtpdonghdnaehhaaGreatDoor
