/- The model's drawn cookies. No condition of its own. -/
import Derived.Test.YtpdonghdnaehhaaGreatDoorYCkBlk
import Derived.Test.YtpdonghdnaehhaaGreatDoorHostDraw
import Derived.Test.YtpdonghdnaehhaaGreatDoorYCkList
import Derived.Deep.RegionWith
import Derived.Deep.DeepCutAuto
namespace Go.Proofs.YtpdonghdnaehhaaGreatDoor
open Go.ChangeShapes Go.WideShapes Go.ChangeAt Go.WideMaps Go.WideElems Go.RowKit

def nameTexts : List ByteArray := [⟨#[115, 105, 100]⟩, ⟨#[108, 97, 110, 103]⟩, ⟨#[97]⟩, ⟨#[]⟩]
def valTexts : List ByteArray := [⟨#[49]⟩, ⟨#[118]⟩, ⟨#[120, 32, 121]⟩, ⟨#[97, 61, 98]⟩]
def pathTexts : List ByteArray := [⟨#[47]⟩, ⟨#[47, 97]⟩, ⟨#[47, 97, 47]⟩, ⟨#[47, 97, 47, 98]⟩, ⟨#[47, 97, 47, 98, 47, 99]⟩, ⟨#[47, 97, 98]⟩, ⟨#[47, 98]⟩]
theorem pair_texts : ∀ n ∈ nameTexts, ∀ v ∈ valTexts, pairOKB n v = true := by decide +kernel
theorem val_texts : ∀ v ∈ valTexts, 0 < v.size ∧ v.size ≤ 3 := by decide +kernel
theorem name_texts : ∀ v ∈ nameTexts, v.size ≤ 4 := by decide +kernel
theorem path_texts : ∀ p ∈ pathTexts, cpathB p = true ∧ p.size ≤ 10 := by decide +kernel
theorem hosts_ok : ∀ s ∈ hostTexts, hostB s = true := by decide +kernel
/-- A drawn cookie: valid and short. -/
def CkDrawn (q : Ck) : Prop := ckOK q = true ∧ q.n ∈ nameTexts ∧ q.v ∈ valTexts ∧ q.d ∈ hostTexts ∧ (q.p ∈ pathTexts ∧ q.i ≤ 50)
theorem src_kept {b : Nat} {v : Value} {len n : Nat} {w w' : World} (h : Src b v len n w) (hg : w.grownBy w' none) : Src b v len n w' := by
  obtain ⟨hc, seed, h0, h1, hb⟩ := h
  have hlt : b < w.heap.size := (Array.getElem?_eq_some_iff.1 hb).1
  have hg2 : w.grownBy w' (some b) := ⟨hg.1, hg.2, hg.3, hg.size, fun j hj _ => hg.block j hj (by simp)⟩
  exact src_of hc hg2 h0 h1 ((hg.block b hlt (by simp)).trans hb)
def ChanceP (b : Nat) (v : Value) (len n : Nat) (w : World) (e : Ending) (w' : World) : Prop := ∃ r : Bool, e = .returned (.bool r) ∧ Src b v len n w' ∧ w.grownBy w' (some b)
theorem chanceC_any (b : Nat) (v : Value) (len n : Nat) (w : World) (m : Nat) (hm : 2 ≤ m) (hm2 : m ≤ 256) (hn : n < 1000000) (h : Src b v len n w) : Calls Tryz.prog 191 #[.pointer (some ⟨b, 0, none⟩), .int .i64 m] w (ChanceP b v len (n + 1) w) := by
  have HS := Lib.hid h
  clear h
  go_enter Tryz.func191, Tryz.ntmps191
  go_wp2_with fail
  refine (next_small b v len n _ m hm hm2 hn HS.out).mono ?_
  rintro e w1 ⟨r1, rfl, hr1, hsrc, hg⟩
  have HX1 := Lib.hid hsrc
  have HG1 := Lib.hid hg
  clear hsrc hg
  go_wp2_with fail
  go_ret
  exact ⟨_, rfl, HX1.out, HG1.out⟩
theorem path_any (b : Nat) (v : Value) (len n : Nat) (w : World) (hn : n < 900000) (h : Src b v len n w) (hb : b < w.heap.size) : Calls Tryz.prog 190 #[.pointer (some ⟨b, 0, none⟩)] w (SrcText b v len (n + 1) pathTexts w) := by
  have HS := Lib.hid h
  clear h
  go_enter Tryz.func190, Tryz.ntmps190
  go_wp2_with (go_at_call 183; refine (pick_new b v len n w pathTexts _ _ _ rfl rfl (by decide) (by decide) (by omega) HS.out hb).mono ?_; rintro e w' ⟨s, hs, rfl, hsrc, hg⟩; have HX := Lib.hid hsrc; have HG := Lib.hid hg; have HM := Lib.hid hs; clear hsrc hg hs)
  go_ret
  exact ⟨s, HM.out, rfl, HX.out, HG.out⟩
theorem CkB.grown {w w' : World} {B b : Nat} {q : Ck} (h : CkB w B q) (hg : w.grownBy w' (some b)) (hne : B ≠ b) : CkB w' B q := (hg.block B h.lt (by simpa using hne)).trans h
theorem CkB.stored {w : World} {B : Nat} {z : Ck} (h : CkB w B z) (q : Ck) : CkB (putCk w B 0 q) B q := by
  have h12 := (((((((((((h.set0 q.i).set1 q.n).set2 q.v).set3 q.d).set4 q.p).set5 q.ho).set6 q.sc).set7 q.ht).set8 q.s).set9 q.x).set10 q.m).set11 q.u
  exact h12
def zeroC : Ck := ⟨0, ByteArray.empty, ByteArray.empty, ByteArray.empty, ByteArray.empty, false, false, false, 0, 0, 0, 0⟩
theorem grown_put1 {w wr : World} {B b i : Nat} {u : Value} (hg : w.grownBy wr (some b)) (hB : w.heap.size ≤ B) : w.grownBy (wr.setCell ⟨B, i, none⟩ u) (some b) :=
  ⟨hg.os, hg.tape, hg.output, by simpa [World.setCell] using hg.size, fun k hk hr => (Below.heap_setCell _ _ _ _ (by show k ≠ B; omega)).trans (hg.block k hk hr)⟩
theorem src_put1 {w wr : World} {B b i : Nat} {u : Value} {v : Value} {len n : Nat} (hc : CodeAt w b v len) (hg : w.grownBy wr (some b)) (h : Src b v len n wr) (hB : w.heap.size ≤ B) (hne : B ≠ b) : Src b v len n (wr.setCell ⟨B, i, none⟩ u) := by
  obtain ⟨_, seed, h0, h1, hb⟩ := h
  exact src_of hc (grown_put1 hg hB) h0 h1 ((Below.heap_setCell _ _ _ _ (by show b ≠ B; exact Ne.symm hne)).trans hb)
theorem both_put1 {w wr : World} {B b i : Nat} {u : Value} {v : Value} {len n : Nat} (hc : CodeAt w b v len) (h : w.grownBy wr (some b) ∧ Src b v len n wr) (hB : w.heap.size ≤ B) (hne : B ≠ b) : w.grownBy (wr.setCell ⟨B, i, none⟩ u) (some b) ∧ Src b v len n (wr.setCell ⟨B, i, none⟩ u) := ⟨grown_put1 h.1 hB, src_put1 hc h.1 h.2 hB hne⟩
theorem both_putCk {w wr : World} {B b : Nat} {v : Value} {len n : Nat} (hc : CodeAt w b v len) (h : w.grownBy wr (some b) ∧ Src b v len n wr) (hB : w.heap.size ≤ B) (hne : B ≠ b) (o : Nat) (q : Ck) : w.grownBy (putCk wr B o q) (some b) ∧ Src b v len n (putCk wr B o q) := by
  unfold putCk
  exact both_put1 hc (both_put1 hc (both_put1 hc (both_put1 hc (both_put1 hc (both_put1 hc (both_put1 hc (both_put1 hc (both_put1 hc (both_put1 hc (both_put1 hc (both_put1 hc (h) hB hne) hB hne) hB hne) hB hne) hB hne) hB hne) hB hne) hB hne) hB hne) hB hne) hB hne) hB hne
theorem src_putCk {w wr : World} {B b : Nat} {v : Value} {len n : Nat} (hc : CodeAt w b v len) (hg : w.grownBy wr (some b)) (h : Src b v len n wr) (hB : w.heap.size ≤ B) (hne : B ≠ b) (o : Nat) (q : Ck) : Src b v len n (putCk wr B o q) := (both_putCk hc ⟨hg, h⟩ hB hne o q).2
theorem grown_putCk {w wr : World} {B b : Nat} (hg : w.grownBy wr (some b)) (hB : w.heap.size ≤ B) (o : Nat) (q : Ck) : w.grownBy (putCk wr B o q) (some b) := by
  unfold putCk
  exact grown_put1 (grown_put1 (grown_put1 (grown_put1 (grown_put1 (grown_put1 (grown_put1 (grown_put1 (grown_put1 (grown_put1 (grown_put1 (grown_put1 (hg) hB) hB) hB) hB) hB) hB) hB) hB) hB) hB) hB) hB
def CkSrc (b : Nat) (v : Value) (len n : Nat) (w : World) (e : Ending) (w' : World) : Prop := ∃ q : Ck, e = .returned (.agg #[.int .i64 q.i, .string q.n, .string q.v, .string q.d, .string q.p, .bool q.ho, .bool q.sc, .bool q.ht, .int .i64 q.s, .int .i64 q.x, .int .i64 q.m, .int .i64 q.u]) ∧ CkDrawn q ∧ (∃ m, m ≤ n + 13 ∧ Src b v len m w') ∧ w.grownBy w' (some b)
theorem drawn_ok {i : Int} {n v d p : ByteArray} {ho sc ht : Bool} {s x m u : Int} (h1 : 1 ≤ i) (h2 : i ≤ 50) (hn : n ∈ nameTexts) (hv : v ∈ valTexts) (hd : d ∈ hostTexts) (hp : p ∈ pathTexts) (h3 : 1 ≤ s) (h4 : s ≤ 4) (h5 : 1 ≤ x) (h6 : x ≤ 2000000000000) (h7 : 0 ≤ m) (h8 : m ≤ 29) (h9 : m ≤ u) (h10 : u ≤ m + 9) : CkDrawn ⟨i, n, v, d, p, ho, sc, ht, s, x, m, u⟩ := by
  refine ⟨?_, hn, hv, hd, hp, h2⟩
  unfold ckOK inRange
  simp only
  rw [pair_texts n hn v hv, hosts_ok d hd, (path_texts p hp).1, decide_eq_true ⟨h1, by omega⟩, decide_eq_true ⟨h3, h4⟩, decide_eq_true ⟨h5, h6⟩, decide_eq_true ⟨h7, by omega⟩, decide_eq_true ⟨h9, by omega⟩]
  rfl
def CkCut3 (b : Nat) (v : Value) (len n : Nat) (w : World) (g : Nat) (i : Int) (tn tv td tp : ByteArray) (b1 b2 b3 : Bool) (s x : Int) (r6 : Nat) (u : Value) (wx : World) : Prop :=
  ∃ r7 : Nat, r7 ≤ 9 ∧ u = .int .i64 r7 ∧ Src b v len (n + 1 + 1 + 1 + 1 + 1 + 1 + 1 + 1 + 1 + 1 + 1 + 1 + 1) wx ∧ w.grownBy wx (some b) ∧ CkB wx g ⟨i, tn, tv, td, tp, b1, b2, b3, s, x, (r6 : Int), (r6 : Int) + r7⟩ ∧ CkB wx w.heap.size zeroC
set_option maxHeartbeats 4000000 in
set_option maxRecDepth 100000 in
theorem cookieSrc_any (b : Nat) (v : Value) (len n : Nat) (w : World) (hn : n < 700000) (h : Src b v len n w) (hb : b < w.heap.size) : Calls Tryz.prog 90 #[.pointer (some ⟨b, 0, none⟩)] w (CkSrc b v len n w) := by
  have HX0 := Lib.hid (src_kept h (World.grownBy_alloc w (.cells #[.int .i64 zeroC.i, .string zeroC.n, .string zeroC.v, .string zeroC.d, .string zeroC.p, .bool zeroC.ho, .bool zeroC.sc, .bool zeroC.ht, .int .i64 zeroC.s, .int .i64 zeroC.x, .int .i64 zeroC.m, .int .i64 zeroC.u] 41) none))
  have HG0 := Lib.hid (World.grownBy_alloc w (.cells #[.int .i64 zeroC.i, .string zeroC.n, .string zeroC.v, .string zeroC.d, .string zeroC.p, .bool zeroC.ho, .bool zeroC.sc, .bool zeroC.ht, .int .i64 zeroC.s, .int .i64 zeroC.x, .int .i64 zeroC.m, .int .i64 zeroC.u] 41) (some b))
  have HZ0 := Lib.hid (CkB.new w zeroC)
  have hs0 : b < (w.alloc (.cells #[.int .i64 zeroC.i, .string zeroC.n, .string zeroC.v, .string zeroC.d, .string zeroC.p, .bool zeroC.ho, .bool zeroC.sc, .bool zeroC.ht, .int .i64 zeroC.s, .int .i64 zeroC.x, .int .i64 zeroC.m, .int .i64 zeroC.u] 41)).heap.size := by simp; omega
  have hS := Lib.hid h
  clear h
  go_enter Tryz.func90, Tryz.ntmps90
  go_wp2_with fail
  refine (next_small b v len (n) _ 50 (by omega) (by omega) (by omega) HX0.out).mono ?_
  rintro e w1 ⟨r1, rfl, hr1, hsrc, hg⟩
  have HX1 := Lib.hid hsrc
  have HG1 := Lib.hid (grown_trans HG0.out hg)
  have HZ1 := Lib.hid (HZ0.out.grown hg (by omega))
  have hs1 : b < w1.heap.size := by have := hg.size; first | omega | (simp at this; omega)
  clear hsrc hg
  go_wp2_with fail
  refine (pick_new b v len (n + 1) _ nameTexts _ _ _ rfl rfl (by decide) (by decide) (by omega) HX1.out hs1).mono ?_
  rintro e w2 ⟨tn, htn, rfl, hsrc, hg⟩
  have HX2 := Lib.hid hsrc
  have HG2 := Lib.hid (grown_trans HG1.out hg)
  have HZ2 := Lib.hid (HZ1.out.grown hg (by omega))
  have hs2 : b < w2.heap.size := by have := hg.size; first | omega | (simp at this; omega)
  have HTN := Lib.hid htn
  clear htn
  clear hsrc hg
  go_wp2_with fail
  refine (pick_new b v len (n + 1 + 1) _ valTexts _ _ _ rfl rfl (by decide) (by decide) (by omega) HX2.out hs2).mono ?_
  rintro e w3 ⟨tv, htv, rfl, hsrc, hg⟩
  have HX3 := Lib.hid hsrc
  have HG3 := Lib.hid (grown_trans HG2.out hg)
  have HZ3 := Lib.hid (HZ2.out.grown hg (by omega))
  have hs3 : b < w3.heap.size := by have := hg.size; first | omega | (simp at this; omega)
  have HTV := Lib.hid htv
  clear htv
  clear hsrc hg
  go_wp2_with fail
  refine (host_any b v len (n + 1 + 1 + 1) _ (by omega) HX3.out hs3).mono ?_
  rintro e w4 ⟨td, htd, rfl, hsrc, hg⟩
  have HX4 := Lib.hid hsrc
  have HG4 := Lib.hid (grown_trans HG3.out hg)
  have HZ4 := Lib.hid (HZ3.out.grown hg (by omega))
  have hs4 : b < w4.heap.size := by have := hg.size; first | omega | (simp at this; omega)
  have HTD := Lib.hid htd
  clear htd
  clear hsrc hg
  go_wp2_with fail
  refine (path_any b v len (n + 1 + 1 + 1 + 1) _ (by omega) HX4.out hs4).mono ?_
  rintro e w5 ⟨tp, htp, rfl, hsrc, hg⟩
  have HX5 := Lib.hid hsrc
  have HG5 := Lib.hid (grown_trans HG4.out hg)
  have HZ5 := Lib.hid (HZ4.out.grown hg (by omega))
  have hs5 : b < w5.heap.size := by have := hg.size; first | omega | (simp at this; omega)
  have HTP := Lib.hid htp
  clear htp
  clear hsrc hg
  go_wp2_with fail
  refine (chanceC_any b v len (n + 1 + 1 + 1 + 1 + 1) _ 2 (by omega) (by omega) (by omega) HX5.out).mono ?_
  rintro e w6 ⟨b1, rfl, hsrc, hg⟩
  have HX6 := Lib.hid hsrc
  have HG6 := Lib.hid (grown_trans HG5.out hg)
  have HZ6 := Lib.hid (HZ5.out.grown hg (by omega))
  have hs6 : b < w6.heap.size := by have := hg.size; first | omega | (simp at this; omega)
  clear hsrc hg
  go_wp2_with fail
  refine (chanceC_any b v len (n + 1 + 1 + 1 + 1 + 1 + 1) _ 3 (by omega) (by omega) (by omega) HX6.out).mono ?_
  rintro e w7 ⟨b2, rfl, hsrc, hg⟩
  have HX7 := Lib.hid hsrc
  have HG7 := Lib.hid (grown_trans HG6.out hg)
  have HZ7 := Lib.hid (HZ6.out.grown hg (by omega))
  have hs7 : b < w7.heap.size := by have := hg.size; first | omega | (simp at this; omega)
  clear hsrc hg
  go_wp2_with fail
  refine (chanceC_any b v len (n + 1 + 1 + 1 + 1 + 1 + 1 + 1) _ 4 (by omega) (by omega) (by omega) HX7.out).mono ?_
  rintro e w8 ⟨b3, rfl, hsrc, hg⟩
  have HX8 := Lib.hid hsrc
  have HG8 := Lib.hid (grown_trans HG7.out hg)
  have HZ8 := Lib.hid (HZ7.out.grown hg (by omega))
  have hs8 : b < w8.heap.size := by have := hg.size; first | omega | (simp at this; omega)
  clear hsrc hg
  go_wp2_with fail
  refine (next_small b v len (n + 1 + 1 + 1 + 1 + 1 + 1 + 1 + 1) _ 4 (by omega) (by omega) (by omega) HX8.out).mono ?_
  rintro e w9 ⟨r2, rfl, hr2, hsrc, hg⟩
  have HX9 := Lib.hid hsrc
  have HG9 := Lib.hid (grown_trans HG8.out hg)
  have HZ9 := Lib.hid (HZ8.out.grown hg (by omega))
  have hs9 : b < w9.heap.size := by have := hg.size; first | omega | (simp at this; omega)
  clear hsrc hg
  go_wp2_with fail
  refine (next_small b v len (n + 1 + 1 + 1 + 1 + 1 + 1 + 1 + 1 + 1) _ 100 (by omega) (by omega) (by omega) HX9.out).mono ?_
  rintro e w10 ⟨r3, rfl, hr3, hsrc, hg⟩
  have HX10 := Lib.hid hsrc
  have HG10 := Lib.hid (grown_trans HG9.out hg)
  have HZ10 := Lib.hid (HZ9.out.grown hg (by omega))
  have hs10 : b < w10.heap.size := by have := hg.size; first | omega | (simp at this; omega)
  clear hsrc hg
  go_wp2_with fail
  have HA := Lib.hid (src_kept HX10.out (World.grownBy_alloc w10 (.cells #[.int .i64 2000000000000, .int .i64 (1 + (r3 : Int))] 3) none))
  have GA := Lib.hid (grown_trans HG10.out (World.grownBy_alloc w10 (.cells #[.int .i64 2000000000000, .int .i64 (1 + (r3 : Int))] 3) (some b)))
  have ZA := Lib.hid (HZ10.out.alloc (.cells #[.int .i64 2000000000000, .int .i64 (1 + (r3 : Int))] 3))
  refine (next_small b v len (n + 1 + 1 + 1 + 1 + 1 + 1 + 1 + 1 + 1 + 1) _ 2 (by omega) (by omega) (by omega) HA.out).mono ?_
  rintro e w11 ⟨r5, rfl, hr5, hsrc, hg⟩
  have hx : ∃ x : Int, 1 ≤ x ∧ x ≤ 2000000000000 ∧ w11.cell? ⟨w10.heap.size, r5, none⟩ = some (.int .i64 x) := by
    have hbl : w11.heap[w10.heap.size]? = some (.cells #[.int .i64 2000000000000, .int .i64 (1 + (r3 : Int))] 3 (0, 0)) := (hg.block w10.heap.size (by simp) (by simp; omega)).trans (heap_alloc_new w10 _)
    have h5 : r5 = 0 ∨ r5 = 1 := by omega
    rcases h5 with rfl | rfl
    · exact ⟨2000000000000, by omega, by omega, by simp [World.cell?, hbl]⟩
    · exact ⟨1 + (r3 : Int), by omega, by omega, by simp [World.cell?, hbl]⟩
  obtain ⟨x, hx1, hx2, hxc⟩ := hx
  have HXC := Lib.hid (show 1 ≤ x ∧ x ≤ 2000000000000 from ⟨hx1, hx2⟩)
  have hr5i : (r5 : Int) < 2 := by omega
  have HX11 := Lib.hid hsrc
  have HG11 := Lib.hid (grown_trans GA.out hg)
  have HZ11 := Lib.hid (ZA.out.grown hg (by omega))
  have hs11 : b < w11.heap.size := by have := hg.size; simp at this; omega
  have hw11 : w.heap.size < w11.heap.size := HZ11.out.lt
  clear hsrc hg hx1 hx2
  obtain ⟨q1, hq1⟩ : ∃ q1 : Ck, (⟨1 + (r1 : Int), tn, tv, td, tp, b1, b2, b3, 1 + (r2 : Int), x, 0, 0⟩ : Ck) = q1 := ⟨_, rfl⟩
  go_wp2_with fail
  have PC := Lib.hid (CkB.new w11 (⟨1 + (r1 : Int), tn, tv, td, tp, b1, b2, b3, 1 + (r2 : Int), x, 0, 0⟩ : Ck))
  have HB := Lib.hid (src_kept HX11.out (World.grownBy_alloc w11 (.cells #[.int .i64 (1 + (r1 : Int)), .string tn, .string tv, .string td, .string tp, .bool b1, .bool b2, .bool b3, .int .i64 (1 + (r2 : Int)), .int .i64 x, .int .i64 0, .int .i64 0] 41) none))
  have GB := Lib.hid (grown_trans HG11.out (World.grownBy_alloc w11 (.cells #[.int .i64 (1 + (r1 : Int)), .string tn, .string tv, .string td, .string tp, .bool b1, .bool b2, .bool b3, .int .i64 (1 + (r2 : Int)), .int .i64 x, .int .i64 0, .int .i64 0] 41) (some b)))
  have ZB := Lib.hid (HZ11.out.alloc (.cells #[.int .i64 (1 + (r1 : Int)), .string tn, .string tv, .string td, .string tp, .bool b1, .bool b2, .bool b3, .int .i64 (1 + (r2 : Int)), .int .i64 x, .int .i64 0, .int .i64 0] 41))
  refine (next_small b v len (n + 1 + 1 + 1 + 1 + 1 + 1 + 1 + 1 + 1 + 1 + 1) _ 30 (by omega) (by omega) (by omega) HB.out).mono ?_
  rintro e w12 ⟨r6, rfl, hr6, hsrc, hg⟩
  have HX12 := Lib.hid hsrc
  have HG12 := Lib.hid (grown_trans GB.out hg)
  have HZ12 := Lib.hid (ZB.out.grown hg (by omega))
  have hp12 := PC.out.grown hg (by omega)
  have P12 := Lib.hid hp12
  have hs12 : b < w12.heap.size := by have := hg.size; simp at this; omega
  have hw12 : w11.heap.size < w12.heap.size := by have := hg.size; simp at this; omega
  obtain ⟨c0, c1, c2, c3, c4, c5, c6, c7, c8, c9, c10, c11⟩ := hp12.at
  have f10 := hp12.free 10
  clear hsrc hg hp12 hq1
  go_upto_region 3 with fail
  have hCA := hS.out.1
  have G3 := Lib.hid (grown_put1 (i := 10) (u := .int .i64 (r6 : Int)) HG12.out (Nat.le_of_lt hw11))
  have X3 := Lib.hid (src_put1 (i := 10) (u := .int .i64 (r6 : Int)) hCA HG12.out HX12.out (Nat.le_of_lt hw11) (show w11.heap.size ≠ b by omega))
  have P3 := Lib.hid (P12.out.set10 (r6 : Int))
  have Z3 := Lib.hid (HZ12.out.other (i := 10) (u := .int .i64 (r6 : Int)) (show w11.heap.size ≠ w.heap.size by omega))
  clear c0 c1 c2 c3 c4 c5 c6 c7 c8 c9 c10 c11 f10
  obtain ⟨w13, hw13⟩ : ∃ wz, w12.setCell ⟨w11.heap.size, 10, none⟩ (.int .i64 (r6 : Int)) = wz := ⟨_, rfl⟩
  rw [hw13] at G3 X3 P3 Z3 ⊢
  have hs13 : b < w13.heap.size := X3.out.lt
  clear hw13
  have hpd : CkB w13.drew w11.heap.size _ := P3.out
  obtain ⟨c0, c1, c2, c3, c4, c5, c6, c7, c8, c9, c10, c11⟩ := P3.out.at
  obtain ⟨d0, d1, d2, d3, d4, d5, d6, d7, d8, d9, d10, d11⟩ := hpd.at
  have XD : Hid (Src b v len (n + 1 + 1 + 1 + 1 + 1 + 1 + 1 + 1 + 1 + 1 + 1 + 1) w13.drew) := X3.out
  clear hpd
  go_cut [41] (fun u wx => CkCut3 b v len n w w11.heap.size (1 + (r1 : Int)) tn tv td tp b1 b2 b3 (1 + (r2 : Int)) x r6 u wx)
  case first =>
    go_region_with (first
      | (go_at_call 182; refine (next_small b v len (n + 1 + 1 + 1 + 1 + 1 + 1 + 1 + 1 + 1 + 1 + 1 + 1) _ 10 (by omega) (by omega) (by omega) XD.out).mono ?_; rintro e w14 ⟨r7, rfl, hr7, hsrc, hg⟩; have hp14 := CkB.grown (show CkB w13.drew w11.heap.size _ from P3.out) hg (by omega); have HX14 := Lib.hid hsrc; have HG14 := Lib.hid (grown_trans G3.out (grown_trans (grown_drew1 w13 (some b)) hg)); have HZ14 := Lib.hid (CkB.grown (show CkB w13.drew w.heap.size _ from Z3.out) hg (by omega)); have P14 := Lib.hid hp14; obtain ⟨e0, e1, e2, e3, e4, e5, e6, e7, e8, e9, e10, e11⟩ := hp14.at; have f11 := hp14.free 11; clear hsrc hg hp14))
    all_goals
      have hwr : IntKind.i64.wrap ((r6 : Int) + (r7 : Int)) = (r6 : Int) + r7 := by rw [IntKind.wrap_i64]; omega
      go_wp2_with fail
      go_meet
      try rw [hwr]
      exact ⟨r7, hr7, rfl, src_put1 hCA HG14.out HX14.out (Nat.le_of_lt hw11) (by omega), grown_put1 HG14.out (Nat.le_of_lt hw11), P14.out.set11 ((r6 : Int) + r7), HZ14.out.other (show w11.heap.size ≠ w.heap.size by omega)⟩
  case rest =>
    obtain ⟨r7, hr7, rfl, hX4, hG4, hP4, hZ4⟩ := hcut
    have X4 := Lib.hid hX4
    have G4 := Lib.hid hG4
    have P4 := Lib.hid hP4
    have Z4 := Lib.hid hZ4
    clear hX4 hG4 hP4 hZ4 c0 c1 c2 c3 c4 c5 c6 c7 c8 c9 c10 c11 d0 d1 d2 d3 d4 d5 d6 d7 d8 d9 d10 d11
    have HQ := Lib.hid (drawn_ok (i := 1 + (r1 : Int)) (n := tn) (v := tv) (d := td) (p := tp) (ho := b1) (sc := b2) (ht := b3) (s := 1 + (r2 : Int)) (x := x) (m := r6) (u := (r6 : Int) + r7) (by omega) (by omega) HTN.out HTV.out HTD.out HTP.out (by omega) (by omega) HXC.out.1 HXC.out.2 (by omega) (by omega) (by omega) (by omega))
    obtain ⟨c0, c1, c2, c3, c4, c5, c6, c7, c8, c9, c10, c11⟩ := P4.out.at
    obtain ⟨d0, d1, d2, d3, d4, d5, d6, d7, d8, d9, d10, d11⟩ := Z4.out.at
    have z0 := Z4.out.free
    have z0q := z0 0
    have z1q := z0 1
    have z2q := z0 2
    have z3q := z0 3
    have z4q := z0 4
    have z5q := z0 5
    have z6q := z0 6
    have z7q := z0 7
    have z8q := z0 8
    have z9q := z0 9
    have z10q := z0 10
    have z11q := z0 11
    have HCZ := Lib.hid hCA
    clear z0 hCA
    go_wp2_with fail
    have hfin : CkB (putCk wc w.heap.size 0 (⟨1 + (r1 : Int), tn, tv, td, tp, b1, b2, b3, 1 + (r2 : Int), x, (r6 : Int), (r6 : Int) + r7⟩ : Ck)) w.heap.size ⟨1 + (r1 : Int), tn, tv, td, tp, b1, b2, b3, 1 + (r2 : Int), x, (r6 : Int), (r6 : Int) + r7⟩ := Z4.out.stored _
    have hsF := src_putCk HCZ.out G4.out X4.out (Nat.le_refl _) (show w.heap.size ≠ b by omega) 0 (⟨1 + (r1 : Int), tn, tv, td, tp, b1, b2, b3, 1 + (r2 : Int), x, (r6 : Int), (r6 : Int) + r7⟩ : Ck)
    have hgF := grown_putCk G4.out (Nat.le_refl _) 0 (⟨1 + (r1 : Int), tn, tv, td, tp, b1, b2, b3, 1 + (r2 : Int), x, (r6 : Int), (r6 : Int) + r7⟩ : Ck)
    unfold putCk at hfin hsF hgF
    simp only [Nat.zero_add] at hfin hsF hgF
    obtain ⟨y0, y1, y2, y3, y4, y5, y6, y7, y8, y9, y10, y11⟩ := hfin.at
    refine bodyPost_ret (v := .agg #[.int .i64 (1 + (r1 : Int)), .string tn, .string tv, .string td, .string tp, .bool b1, .bool b2, .bool b3, .int .i64 (1 + (r2 : Int)), .int .i64 x, .int .i64 r6, .int .i64 ((r6 : Int) + r7)]) (by simp [results, Tryz.results90, go_sem, y0, y1, y2, y3, y4, y5, y6, y7, y8, y9, y10, y11]) rfl ?_
    refine ⟨⟨1 + (r1 : Int), tn, tv, td, tp, b1, b2, b3, 1 + (r2 : Int), x, (r6 : Int), (r6 : Int) + r7⟩, rfl, HQ.out, ?_, ?_⟩
    · exact ⟨_, by omega, hsF⟩
    · exact hgF
end Go.Proofs.YtpdonghdnaehhaaGreatDoor
