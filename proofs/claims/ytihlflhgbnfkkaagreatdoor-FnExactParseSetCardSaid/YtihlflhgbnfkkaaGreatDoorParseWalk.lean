/- The walk of the law on ParseSet. No condition of its own. -/
import Derived.Test.YtihlflhgbnfkkaaGreatDoorSpecParse
import Derived.Test.YtihlflhgbnfkkaaGreatDoorReadLaw
namespace Go.Proofs.YtihlflhgbnfkkaaGreatDoor
open Go.ChangeShapes Go.WideShapes Go.ChangeAt Go.WideMaps Go.WideElems Go.RowKit

set_option maxHeartbeats 4000000 in
set_option maxRecDepth 100000 in
theorem walk_FnExactParseSet (W : World) (t : ByteArray) (hs : t.size ≤ maxLen) (hL : laidMetH Tryz.prog Rows.fnExactParseSetRow.laid W) (hSh : W.ShapedOpen Tryz.prog) :
    Calls Tryz.prog 5 #[.string t] W fun e w' => e = .returned (.bool true) ∧ Below W.heap.size W w' := by
  rw [MakeChecks.laidMetH_plain _ _ _ (by kernel_rfl)] at hL
  have h1 := hL.tail
  have hpr : PrAt W := ⟨tab_of_laid h1, months_laid h1.tail, max_is hSh, sites_laid h1.tail.tail⟩
  have HPR := Lib.hid hpr
  have HS := Lib.hid hs
  clear hL hSh h1 hpr
  unfold maxLen at hs
  by_cases hl : (t.size : Int) ≤ 1048576
  · obtain ⟨q, hq⟩ : ∃ q, parP t = q := ⟨_, rfl⟩
    obtain ⟨c, hc⟩ : ∃ c, parC t = c := ⟨_, rfl⟩
    have h1 : ∀ W' : World, Calls Tryz.prog 12 #[.string t] W' fun e w' => e = .returned (.tuple #[psV q, .int .i64 c]) ∧ Below W'.heap.size W' w' := by
      intro W'
      have h := specParse t W'
      rw [hq, hc] at h
      exact h
    have h2 : ∀ W' : World, PrAt W' → Calls Tryz.prog 9 #[.string t] W' fun e w' => e = .returned (.tuple #[psV q, .int .i64 c]) ∧ Below W'.heap.size W' w' := by
      intro W' hA
      have h := implParse t W' HS.out hA
      rw [hq, hc] at h
      exact h
    have H1 := Lib.hid h1
    have H2 := Lib.hid h2
    clear h1 h2 hq hc
    obtain ⟨n, v, d, p, he, ha, hp, x, a, s, sc, ho⟩ := q
    have gc : (c != c) = false := by simp
    go_enter Tryz.func5, Tryz.ntmps5
    go_wp2_with fail
    refine (H1.out _).mono ?_
    rintro e w1 ⟨rfl, hb⟩
    have B1 := Lib.hid (hb.alloc hb.size (.cells #[.string n, .string v, .string d, .string p, .bool he, .bool ha, .bool hp, .int .i64 x, .int .i64 a, .int .i64 s, .bool sc, .bool ho] 24))
    have P1 := Lib.hid (PsB.new w1 n v d p he ha hp x a s sc ho)
    have hz1 := hb.size
    clear hb
    unfold psV
    go_wp2_with fail
    refine (H2.out _ (HPR.out.below B1.out)).mono ?_
    rintro e w2 ⟨rfl, hb⟩
    have B2 := Lib.hid ((B1.out.trans (hb.mono B1.out.size)).alloc (B1.out.trans (hb.mono B1.out.size)).size (.cells #[.string n, .string v, .string d, .string p, .bool he, .bool ha, .bool hp, .int .i64 x, .int .i64 a, .int .i64 s, .bool sc, .bool ho] 24))
    have P2 := Lib.hid ((PsB.stays P1.out hb).alloc (.cells #[.string n, .string v, .string d, .string p, .bool he, .bool ha, .bool hp, .int .i64 x, .int .i64 a, .int .i64 s, .bool sc, .bool ho] 24))
    have P3 := Lib.hid (PsB.new w2 n v d p he ha hp x a s sc ho)
    clear hb
    obtain ⟨c0, c1, c2, c3, c4, c5, c6, c7, c8, c9, c10, c11⟩ := P2.out.at
    obtain ⟨d0, d1, d2, d3, d4, d5, d6, d7, d8, d9, d10, d11⟩ := P3.out.at
    unfold psV
    go_wp2_with fail
    refine (eqParsed_same n v d p he ha hp x a s sc ho _).mono ?_
    rintro e w3 ⟨rfl, hb⟩
    have B3 := Lib.hid (B2.out.trans (hb.mono B2.out.size))
    clear hb
    go_wp2_with fail
    go_ret
    exact ⟨rfl, B3.out⟩
  · go_enter Tryz.func5, Tryz.ntmps5
    go_wp2
    go_ret
    exact ⟨rfl, Below.refl _ _⟩
end Go.Proofs.YtihlflhgbnfkkaaGreatDoor
