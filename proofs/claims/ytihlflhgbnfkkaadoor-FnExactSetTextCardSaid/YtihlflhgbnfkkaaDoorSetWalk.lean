/- SetText of the model; the walk of the law on SetText. No condition of its own. -/
import Derived.Test.YtihlflhgbnfkkaaDoorSetSpec
import Derived.Test.YtihlflhgbnfkkaaDoorParsedWalk
namespace Go.Proofs.YtihlflhgbnfkkaaDoor
open Go.ChangeShapes Go.WideShapes Go.ChangeAt Go.WideMaps Go.WideElems Go.RowKit

set_option maxHeartbeats 2000000 in
set_option maxRecDepth 100000 in
theorem specSet (n v d p : ByteArray) (he ha hp : Bool) (x a s : Int) (sc ho : Bool) (w : World) (hn : n.size ≤ 1048576) (hv : v.size ≤ 1048576) (hd : d.size ≤ 1048576) (hpp : p.size ≤ 1048576) :
    Calls Tryd.prog 7 #[.agg #[.string n, .string v, .string d, .string p, .bool he, .bool ha, .bool hp, .int .i64 x, .int .i64 a, .int .i64 s, .bool sc, .bool ho]] w fun e w' => e = .returned (.tuple #[.string (setV ⟨n, v, d, p, he, ha, hp, x, a, s, sc, ho⟩), .int .i64 (setC ⟨n, v, d, p, he, ha, hp, x, a, s, sc, ho⟩)]) ∧ Below w.heap.size w w' := by
  have B0 := Lib.hid ((Below.refl w.heap.size w).alloc (Nat.le_refl _) (.cells #[.string n, .string v, .string d, .string p, .bool he, .bool ha, .bool hp, .int .i64 x, .int .i64 a, .int .i64 s, .bool sc, .bool ho] 27))
  have P0 := Lib.hid (PsB.new w n v d p he ha hp x a s sc ho)
  go_enter Tryd.func7, Tryd.ntmps7
  go_wp2_with fail
  refine (specOKL n v d p he ha hp x a s sc ho _ hn hv hd hpp).mono ?_
  rintro e w1 ⟨rfl, hb⟩
  have B1 := Lib.hid (B0.out.trans (hb.mono B0.out.size))
  have P1 := Lib.hid (P0.out.stays hb)
  clear hb P0 B0
  cases g : psOK ⟨n, v, d, p, he, ha, hp, x, a, s, sc, ho⟩ with
  | false =>
    have HV : Hid (setV ⟨n, v, d, p, he, ha, hp, x, a, s, sc, ho⟩ = ⟨#[]⟩) := Lib.hid (by rw [setV, g]; rfl)
    have HC : Hid (setC ⟨n, v, d, p, he, ha, hp, x, a, s, sc, ho⟩ = 1) := Lib.hid (by rw [setC, g]; rfl)
    go_wp2_with fail
    go_ret2
    exact ⟨by rw [HV.out, HC.out]; rfl, B1.out⟩
  | true =>
    have HV : Hid (setV ⟨n, v, d, p, he, ha, hp, x, a, s, sc, ho⟩ = setB ⟨n, v, d, p, he, ha, hp, x, a, s, sc, ho⟩) := Lib.hid (by rw [setV, g]; rfl)
    have HC : Hid (setC ⟨n, v, d, p, he, ha, hp, x, a, s, sc, ho⟩ = 0) := Lib.hid (by rw [setC, g]; rfl)
    have HG := Lib.hid g
    clear g
    obtain ⟨c0, c1, c2, c3, c4, c5, c6, c7, c8, c9, c10, c11⟩ := P1.out.at
    go_wp2_with fail
    refine (specTextAll n v d p he ha hp x a s sc ho _ HG.out).mono ?_
    rintro e w2 ⟨rfl, hb⟩
    have B2 := Lib.hid (B1.out.trans (hb.mono B1.out.size))
    clear hb
    clear c0 c1 c2 c3 c4 c5 c6 c7 c8 c9 c10 c11
    go_wp2_with fail
    go_ret2
    exact ⟨by rw [HV.out, HC.out]; rfl, B2.out⟩
set_option maxHeartbeats 2000000 in
set_option maxRecDepth 100000 in
theorem walk_FnExactSetText (W : World) (n v d p : ByteArray) (he ha hp : Bool) (x a s : Int) (sc ho : Bool) (m0 : n.size ≤ maxLen) (m1 : v.size ≤ maxLen) (m2 : d.size ≤ maxLen) (m3 : p.size ≤ maxLen) (hL : laidMetH Tryd.prog Rows.fnExactSetTextRow.laid W) (_ : W.ShapedOpen Tryd.prog) :
    Calls Tryd.prog 3 #[.agg #[.string n, .string v, .string d, .string p, .bool he, .bool ha, .bool hp, .int .i64 x, .int .i64 a, .int .i64 s, .bool sc, .bool ho]] W fun e w' => e = .returned (.bool true) ∧ Below W.heap.size W w' := by
  rw [MakeChecks.laidMetH_plain _ _ _ (by kernel_rfl)] at hL
  have h2 := hL.tail.tail
  have h4 := h2.tail.tail
  have HT := Lib.hid (tab_of_laid h4)
  have HNM : Hid (NamesAt W) := Lib.hid ⟨days_laid h4.tail, mons_laid h4.tail.tail, pow_laid h2⟩
  have HSW := Lib.hid (sites_laid h4.tail.tail.tail)
  clear h2 h4
  clear hL
  have B0 := Lib.hid ((Below.refl W.heap.size W).alloc (Nat.le_refl _) (.cells #[.string n, .string v, .string d, .string p, .bool he, .bool ha, .bool hp, .int .i64 x, .int .i64 a, .int .i64 s, .bool sc, .bool ho] 23))
  have P0 := Lib.hid (LpB.new W n v d p he ha hp x a s sc ho)
  have n1 : ((setV ⟨n, v, d, p, he, ha, hp, x, a, s, sc, ho⟩).toList != (setV ⟨n, v, d, p, he, ha, hp, x, a, s, sc, ho⟩).toList) = false := by simp
  have n2 : (setC ⟨n, v, d, p, he, ha, hp, x, a, s, sc, ho⟩ != setC ⟨n, v, d, p, he, ha, hp, x, a, s, sc, ho⟩) = false := by simp
  have n3 : ((setV ⟨n, v, d, p, he, ha, hp, x, a, s, sc, ho⟩).toList == (setV ⟨n, v, d, p, he, ha, hp, x, a, s, sc, ho⟩).toList) = true := by simp
  by_cases h : n.size + v.size + d.size + p.size ≤ 1048576
  · have hh : (0 : Int) ≤ 1048576 - (n.size : Int) - v.size - d.size - p.size := by omega
    have s0 : n.size ≤ 1048576 := by omega
    have s1 : v.size ≤ 1048576 := by omega
    have s2 : d.size ≤ 1048576 := by omega
    have s3 : p.size ≤ 1048576 := by omega
    go_enter Tryd.func3, Tryd.ntmps3
    go_wp2_with fail
    refine (szParsed_any n v d p he ha hp x a s sc ho _ h).mono ?_
    rintro e w1 ⟨rfl, hb⟩
    have B1 := Lib.hid (B0.out.trans (hb.mono B0.out.size))
    have P1 := Lib.hid (P0.out.stays hb)
    clear hb
    obtain ⟨c0, c1, c2, c3, c4, c5, c6, c7, c8, c9, c10, c11⟩ := P1.out.at
    go_wp2_with fail
    refine (toParsed_any n v d p he ha hp x a s sc ho _).mono ?_
    rintro e w2 ⟨rfl, hb⟩
    have B2 := Lib.hid (B1.out.trans (hb.mono B1.out.size))
    have P2 := Lib.hid (P1.out.stays hb)
    clear hb
    clear c0 c1 c2 c3 c4 c5 c6 c7 c8 c9 c10 c11
    go_wp2_with fail
    refine (specSet n v d p he ha hp x a s sc ho _ s0 s1 s2 s3).mono ?_
    rintro e w3 ⟨rfl, hb⟩
    have B3 := Lib.hid (B2.out.trans (hb.mono B2.out.size))
    have P3 := Lib.hid (P2.out.stays hb)
    clear hb
    obtain ⟨c0, c1, c2, c3, c4, c5, c6, c7, c8, c9, c10, c11⟩ := P3.out.at
    go_wp2_with fail
    refine (toParsed_any n v d p he ha hp x a s sc ho _).mono ?_
    rintro e w4 ⟨rfl, hb⟩
    have B4 := Lib.hid (B3.out.trans (hb.mono B3.out.size))
    clear hb
    clear c0 c1 c2 c3 c4 c5 c6 c7 c8 c9 c10 c11
    go_wp2_with fail
    refine (implSet n v d p he ha hp x a s sc ho _ s0 s1 s2 s3 (HT.out.below B4.out) (HNM.out.below B4.out) (HSW.out.below B4.out)).mono ?_
    rintro e w5 ⟨rfl, hb⟩
    have B5 := Lib.hid (B4.out.trans (hb.mono B4.out.size))
    clear hb
    go_wp2_with fail
    go_ret
    exact ⟨rfl, B5.out⟩
  · go_enter Tryd.func3, Tryd.ntmps3
    go_wp2_with fail
    refine (szParsed_big n v d p he ha hp x a s sc ho _ m0 m1 m2 m3 (by omega)).mono ?_
    rintro e w1 ⟨rfl, hb⟩
    have B1 := Lib.hid (B0.out.trans (hb.mono B0.out.size))
    clear hb
    go_wp2_with fail
    go_ret
    exact ⟨rfl, B1.out⟩
end Go.Proofs.YtihlflhgbnfkkaaDoor
