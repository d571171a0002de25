/- Twelve stores into a parsed header's block. No condition of its own. -/
import Derived.Test.YtpdonghdnaehhaaGreatDoorZDateLine
import Derived.Test.YtpdonghdnaehhaaGreatDoorZGh
import Derived.Test.YtpdonghdnaehhaaGreatDoorZGj
import Derived.Test.YtpdonghdnaehhaaGreatDoorZHeadDraw
import Derived.Test.YtpdonghdnaehhaaGreatDoorZSpecParse
namespace Go.Proofs.YtpdonghdnaehhaaGreatDoor
open Go.ChangeShapes Go.WideShapes Go.ChangeAt Go.WideMaps Go.WideElems Go.RowKit

theorem grown_put1 {w wr : World} {B b i : Nat} {u : Value} (hg : w.grownBy wr (some b)) (hB : w.heap.size ≤ B) : w.grownBy (wr.setCell ⟨B, i, none⟩ u) (some b) :=
  ⟨hg.os, hg.tape, hg.output, by simpa [World.setCell] using hg.size, fun k hk hr => (Below.heap_setCell _ _ _ _ (by show k ≠ B; omega)).trans (hg.block k hk hr)⟩
theorem src_put1 {w wr : World} {B b i : Nat} {u : Value} {v : Value} {len n : Nat} (hc : CodeAt w b v len) (hg : w.grownBy wr (some b)) (h : Src b v len n wr) (hB : w.heap.size ≤ B) (hne : B ≠ b) : Src b v len n (wr.setCell ⟨B, i, none⟩ u) := by
  obtain ⟨_, seed, h0, h1, hb⟩ := h
  exact src_of hc (grown_put1 hg hB) h0 h1 ((Below.heap_setCell _ _ _ _ (by show b ≠ B; exact Ne.symm hne)).trans hb)
theorem both_put1 {w wr : World} {B b i : Nat} {u : Value} {v : Value} {len n : Nat} (hc : CodeAt w b v len) (h : w.grownBy wr (some b) ∧ Src b v len n wr) (hB : w.heap.size ≤ B) (hne : B ≠ b) : w.grownBy (wr.setCell ⟨B, i, none⟩ u) (some b) ∧ Src b v len n (wr.setCell ⟨B, i, none⟩ u) := ⟨grown_put1 h.1 hB, src_put1 hc h.1 h.2 hB hne⟩
def psPut (w : World) (B : Nat) (q : Ps) : World := ((((((((((((w).setCell ⟨B, 0, none⟩ (.string q.n)).setCell ⟨B, 1, none⟩ (.string q.v)).setCell ⟨B, 2, none⟩ (.string q.d)).setCell ⟨B, 3, none⟩ (.string q.p)).setCell ⟨B, 4, none⟩ (.bool q.he)).setCell ⟨B, 5, none⟩ (.bool q.ha)).setCell ⟨B, 6, none⟩ (.bool q.hp)).setCell ⟨B, 7, none⟩ (.int .i64 q.x)).setCell ⟨B, 8, none⟩ (.int .i64 q.a)).setCell ⟨B, 9, none⟩ (.int .i64 q.s)).setCell ⟨B, 10, none⟩ (.bool q.sc)).setCell ⟨B, 11, none⟩ (.bool q.ho)
theorem psPut_at {w : World} {B : Nat} {n v d p : ByteArray} {he ha hp : Bool} {x a s : Int} {sc ho : Bool} (h : PsB w B n v d p he ha hp x a s sc ho) (q : Ps) : PsB (psPut w B q) B q.n q.v q.d q.p q.he q.ha q.hp q.x q.a q.s q.sc q.ho := by
  have h2 := ((((((((((((h).set0 q.n).set1 q.v).set2 q.d).set3 q.p).set4 q.he).set5 q.ha).set6 q.hp).set7 q.x).set8 q.a).set9 q.s).set10 q.sc).set11 q.ho
  exact h2
theorem psPut_below {w wr : World} {B C : Nat} (hb : Below C w wr) (hB : C ≤ B) (q : Ps) : Below C w (psPut wr B q) := by
  unfold psPut
  exact ((((((((((((hb).setCell hB _).setCell hB _).setCell hB _).setCell hB _).setCell hB _).setCell hB _).setCell hB _).setCell hB _).setCell hB _).setCell hB _).setCell hB _).setCell hB _
theorem psPut_both {w wr : World} {B b : Nat} {v : Value} {len n : Nat} (hc : CodeAt w b v len) (h : w.grownBy wr (some b) ∧ Src b v len n wr) (hB : w.heap.size ≤ B) (hne : B ≠ b) (q : Ps) : w.grownBy (psPut wr B q) (some b) ∧ Src b v len n (psPut wr B q) := by
  unfold psPut
  exact both_put1 hc (both_put1 hc (both_put1 hc (both_put1 hc (both_put1 hc (both_put1 hc (both_put1 hc (both_put1 hc (both_put1 hc (both_put1 hc (both_put1 hc (both_put1 hc (h) hB hne) hB hne) hB hne) hB hne) hB hne) hB hne) hB hne) hB hne) hB hne) hB hne) hB hne) hB hne
end Go.Proofs.YtpdonghdnaehhaaGreatDoor

namespace Go.Proofs.YtpdonghdnaehhaaGreatDoor
open Go.ChangeShapes Go.WideShapes Go.ChangeAt Go.WideMaps Go.WideElems Go.RowKit

def PaPost (b : Nat) (v : Value) (len m : Nat) (w : World) (e : Ending) (w' : World) : Prop := ∃ q : Ps, e = .returned (.agg #[.string q.n, .string q.v, .string q.d, .string q.p, .bool q.he, .bool q.ha, .bool q.hp, .int .i64 q.x, .int .i64 q.a, .int .i64 q.s, .bool q.sc, .bool q.ho]) ∧ psGood q ∧ LG b v len m w w'
theorem specParse_open (t : ByteArray) (w : World) (hl : t.size ≤ 65536) : Calls Tryz.prog 84 #[.string t] w fun e w' => ∃ q : Ps, q = parP t ∧ e = .returned (.tuple #[.agg #[.string q.n, .string q.v, .string q.d, .string q.p, .bool q.he, .bool q.ha, .bool q.hp, .int .i64 q.x, .int .i64 q.a, .int .i64 q.s, .bool q.sc, .bool q.ho], .int .i64 (parC t)]) ∧ Below w.heap.size w w' := by
  refine (specParseL t w hl).mono ?_
  rintro e w' ⟨rfl, hb⟩
  exact ⟨parP t, rfl, rfl, hb⟩
set_option maxHeartbeats 8000000 in
set_option maxRecDepth 100000 in
theorem parsed_any (b : Nat) (v : Value) (len n : Nat) (w : World) (hn : n < 400000) (h : Src b v len n w) (hb : b < w.heap.size) : Calls Tryz.prog 65 #[.pointer (some ⟨b, 0, none⟩)] w (PaPost b v len (n + 300) w) := by
  have HCA := Lib.hid h.1
  have HS := Lib.hid (src_grown h (World.grownBy_alloc w (.cells #[.string ByteArray.empty, .string ByteArray.empty, .string ByteArray.empty, .string ByteArray.empty, .bool false, .bool false, .bool false, .int .i64 0, .int .i64 0, .int .i64 0, .bool false, .bool false] 24) none))
  have HG0 := Lib.hid (World.grownBy_alloc w (.cells #[.string ByteArray.empty, .string ByteArray.empty, .string ByteArray.empty, .string ByteArray.empty, .bool false, .bool false, .bool false, .int .i64 0, .int .i64 0, .int .i64 0, .bool false, .bool false] 24) (some b))
  have HZ0 := Lib.hid (PsB.new w ByteArray.empty ByteArray.empty ByteArray.empty ByteArray.empty false false false 0 0 0 false false)
  clear h
  go_enter Tryz.func65, Tryz.ntmps65
  go_wp2_with fail
  refine (header_any b v len n _ (by omega) HS.out (by simp; omega)).mono ?_
  rintro e w1 ⟨s, rfl, hs, ⟨hg, k1, hk1, hsrc⟩⟩
  have HX := Lib.hid hsrc
  have HG := Lib.hid (grown_trans HG0.out hg)
  have HZ := Lib.hid (HZ0.out.grown hg (by omega))
  clear hsrc hg
  go_wp2_with fail
  refine (specParse_open s _ (by omega)).mono ?_
  rintro e w2 ⟨q, hq, rfl, hb2⟩
  have HQ := Lib.hid hq
  have HX2 := Lib.hid (src_grown (src_grown HX.out (grown_below hb2 none)) (World.grownBy_alloc w2 (.cells #[.string q.n, .string q.v, .string q.d, .string q.p, .bool q.he, .bool q.ha, .bool q.hp, .int .i64 q.x, .int .i64 q.a, .int .i64 q.s, .bool q.sc, .bool q.ho] 24) none))
  have HG2 := Lib.hid (grown_trans (grown_trans HG.out (grown_below hb2 (some b))) (World.grownBy_alloc w2 (.cells #[.string q.n, .string q.v, .string q.d, .string q.p, .bool q.he, .bool q.ha, .bool q.hp, .int .i64 q.x, .int .i64 q.a, .int .i64 q.s, .bool q.sc, .bool q.ho] 24) (some b)))
  have hz2 := (HZ.out.stays hb2).alloc (.cells #[.string q.n, .string q.v, .string q.d, .string q.p, .bool q.he, .bool q.ha, .bool q.hp, .int .i64 q.x, .int .i64 q.a, .int .i64 q.s, .bool q.sc, .bool q.ho] 24)
  have HZ2 := Lib.hid hz2
  obtain ⟨c0, c1, c2, c3, c4, c5, c6, c7, c8, c9, c10, c11⟩ := hz2.at
  have zf := hz2.free
  have zf0 := zf 0
  have zf1 := zf 1
  have zf2 := zf 2
  have zf3 := zf 3
  have zf4 := zf 4
  have zf5 := zf 5
  have zf6 := zf 6
  have zf7 := zf 7
  have zf8 := zf 8
  have zf9 := zf 9
  have zf10 := zf 10
  have zf11 := zf 11
  clear hb2 hq hz2 zf
  by_cases hc : parC s = 0
  · have HC := Lib.hid hc
    rw [hc]
    clear hc
    go_wp2_with fail
    have hfin := psPut_at HZ2.out q
    have hboth := psPut_both HCA.out ⟨HG2.out, HX2.out⟩ (Nat.le_refl _) (show w.heap.size ≠ b by omega) q
    unfold psPut at hfin hboth
    obtain ⟨y0, y1, y2, y3, y4, y5, y6, y7, y8, y9, y10, y11⟩ := hfin.at
    refine bodyPost_ret (v := .agg #[.string q.n, .string q.v, .string q.d, .string q.p, .bool q.he, .bool q.ha, .bool q.hp, .int .i64 q.x, .int .i64 q.a, .int .i64 q.s, .bool q.sc, .bool q.ho]) (by simp [results, Tryz.results65, go_sem, y0, y1, y2, y3, y4, y5, y6, y7, y8, y9, y10, y11]) rfl ⟨q, rfl, ?_, hboth.1, _, ?_, hboth.2⟩
    · rw [HQ.out]
      exact read_good HC.out
    · omega
  · obtain ⟨c, hcc⟩ : ∃ c, parC s = c := ⟨_, rfl⟩
    rw [hcc] at hc ⊢
    have hne : (c != 0) = true := by simpa using hc
    clear hc hcc
    go_wp2_with fail
    have hfin := psPut_at HZ2.out (ps0 ⟨#[97]⟩ ⟨#[98]⟩)
    have hboth := psPut_both HCA.out ⟨HG2.out, HX2.out⟩ (Nat.le_refl _) (show w.heap.size ≠ b by omega) (ps0 ⟨#[97]⟩ ⟨#[98]⟩)
    unfold psPut ps0 at hfin hboth
    obtain ⟨y0, y1, y2, y3, y4, y5, y6, y7, y8, y9, y10, y11⟩ := hfin.at
    refine bodyPost_ret (v := .agg #[.string ⟨#[97]⟩, .string ⟨#[98]⟩, .string ⟨#[]⟩, .string ⟨#[]⟩, .bool false, .bool false, .bool false, .int .i64 0, .int .i64 0, .int .i64 4, .bool false, .bool false]) (by simp [results, Tryz.results65, go_sem, y0, y1, y2, y3, y4, y5, y6, y7, y8, y9, y10, y11]) rfl ⟨ps0 ⟨#[97]⟩ ⟨#[98]⟩, rfl, good_default, hboth.1, _, ?_, hboth.2⟩
    omega
set_option maxHeartbeats 4000000 in
set_option maxRecDepth 100000 in
theorem parsedDrawn_any (v : Value) (len : Nat) (w : World) (h : CodeIn w v len) : Calls Tryz.prog 9 #[v] w fun e w' => ∃ q : Ps, e = .returned (.agg #[.string q.n, .string q.v, .string q.d, .string q.p, .bool q.he, .bool q.ha, .bool q.hp, .int .i64 q.x, .int .i64 q.a, .int .i64 q.s, .bool q.sc, .bool q.ho]) ∧ psGood q ∧ Below w.heap.size w w' := by
  have HC := Lib.hid h
  clear h
  go_enter Tryz.func9, Tryz.ntmps9
  go_wp2_with fail
  have HB0 := Lib.hid ((Below.refl w.heap.size w).alloc (Nat.le_refl _) (.cells #[.string ByteArray.empty, .string ByteArray.empty, .string ByteArray.empty, .string ByteArray.empty, .bool false, .bool false, .bool false, .int .i64 0, .int .i64 0, .int .i64 0, .bool false, .bool false] 24))
  refine (source_any _ _ _ (HC.out.below HB0.out)).mono ?_
  rintro e w1 ⟨rfl, hsrc, hb⟩
  have hsz : (w.alloc (.cells #[.string ByteArray.empty, .string ByteArray.empty, .string ByteArray.empty, .string ByteArray.empty, .bool false, .bool false, .bool false, .int .i64 0, .int .i64 0, .int .i64 0, .bool false, .bool false] 24)).heap.size = w.heap.size + 1 := by simp
  rw [hsz] at hsrc ⊢
  have HX1 := Lib.hid hsrc
  have HB1 := Lib.hid (HB0.out.trans (hb.mono HB0.out.size))
  have HR1 := Lib.hid ((PsB.new w ByteArray.empty ByteArray.empty ByteArray.empty ByteArray.empty false false false 0 0 0 false false).stays hb)
  clear hb hsrc hsz
  go_wp2_with fail
  refine (parsed_any (w.heap.size + 1) v len 0 _ (by omega) HX1.out (Src.lt HX1.out)).mono ?_
  rintro e w2 ⟨q, rfl, hgood, hlg⟩
  have HQ := Lib.hid hgood
  have HB2 := Lib.hid (HB1.out.grown hlg.1 HB1.out.size (fun k hk => by cases hk; omega))
  have hres := HR1.out.grown hlg.1 (by omega)
  have HR2 := Lib.hid hres
  have zf := hres.free
  have zf0 := zf 0
  have zf1 := zf 1
  have zf2 := zf 2
  have zf3 := zf 3
  have zf4 := zf 4
  have zf5 := zf 5
  have zf6 := zf 6
  have zf7 := zf 7
  have zf8 := zf 8
  have zf9 := zf 9
  have zf10 := zf 10
  have zf11 := zf 11
  obtain ⟨c0, c1, c2, c3, c4, c5, c6, c7, c8, c9, c10, c11⟩ := hres.at
  clear hres hlg hgood zf
  go_wp2_with fail
  have hfin := psPut_at HR2.out q
  have hbel := psPut_below HB2.out (Nat.le_refl _) q
  unfold psPut at hfin hbel
  obtain ⟨y0, y1, y2, y3, y4, y5, y6, y7, y8, y9, y10, y11⟩ := hfin.at
  refine bodyPost_ret (v := .agg #[.string q.n, .string q.v, .string q.d, .string q.p, .bool q.he, .bool q.ha, .bool q.hp, .int .i64 q.x, .int .i64 q.a, .int .i64 q.s, .bool q.sc, .bool q.ho]) (by simp [results, Tryz.results9, go_sem, y0, y1, y2, y3, y4, y5, y6, y7, y8, y9, y10, y11]) rfl ⟨q, rfl, HQ.out, hbel⟩
end Go.Proofs.YtpdonghdnaehhaaGreatDoor
