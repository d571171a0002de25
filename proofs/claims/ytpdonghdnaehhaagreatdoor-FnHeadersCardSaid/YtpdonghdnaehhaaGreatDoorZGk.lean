/- SetText of the model. No condition of its own. -/
import Derived.Test.YtpdonghdnaehhaaGreatDoorZSetSpec
import Derived.Test.YtpdonghdnaehhaaGreatDoorZSpecOK
import Derived.Test.YtpdonghdnaehhaaGreatDoorZGj
import Derived.Test.YtpdonghdnaehhaaGreatDoorZParse
import Derived.Test.YtpdonghdnaehhaaGreatDoorZSpecParse
import Derived.Test.YtpdonghdnaehhaaGreatDoorZSite
import Derived.Test.YtpdonghdnaehhaaGreatDoorZGb
import Derived.Test.YtpdonghdnaehhaaGreatDoorZPairs
namespace Go.Proofs.YtpdonghdnaehhaaGreatDoor
open Go.ChangeShapes Go.WideShapes Go.ChangeAt Go.WideMaps Go.WideElems Go.RowKit

set_option maxHeartbeats 2000000 in
set_option maxRecDepth 100000 in
theorem specSet (n v d p : ByteArray) (he ha hp : Bool) (x a s : Int) (sc ho : Bool) (w : World) (hn : n.size ≤ 1048576) (hv : v.size ≤ 1048576) (hd : d.size ≤ 1048576) (hpp : p.size ≤ 1048576) :
    Calls Tryz.prog 11 #[.agg #[.string n, .string v, .string d, .string p, .bool he, .bool ha, .bool hp, .int .i64 x, .int .i64 a, .int .i64 s, .bool sc, .bool ho]] w fun e w' => e = .returned (.tuple #[.string (setV ⟨n, v, d, p, he, ha, hp, x, a, s, sc, ho⟩), .int .i64 (setC ⟨n, v, d, p, he, ha, hp, x, a, s, sc, ho⟩)]) ∧ Below w.heap.size w w' := by
  have B0 := Lib.hid ((Below.refl w.heap.size w).alloc (Nat.le_refl _) (.cells #[.string n, .string v, .string d, .string p, .bool he, .bool ha, .bool hp, .int .i64 x, .int .i64 a, .int .i64 s, .bool sc, .bool ho] 24))
  have P0 := Lib.hid (PsB.new w n v d p he ha hp x a s sc ho)
  go_enter Tryz.func11, Tryz.ntmps11
  go_wp2_with fail
  refine (specOKL n v d p he ha hp x a s sc ho _ hn hv hd hpp).mono ?_
  rintro e w1 ⟨rfl, hb⟩
  have B1 := Lib.hid (B0.out.trans (hb.mono B0.out.size))
  have P1 := Lib.hid (P0.out.stays hb)
  clear hb P0 B0
  cases g : psOK ⟨n, v, d, p, he, ha, hp, x, a, s, sc, ho⟩ with
  | false =>
    have HV : Hid (setV ⟨n, v, d, p, he, ha, hp, x, a, s, sc, ho⟩ = ⟨#[]⟩) := Lib.hid (by rw [setV, g]; rfl)
    have HC : Hid (setC ⟨n, v, d, p, he, ha, hp, x, a, s, sc, ho⟩ = 1) := Lib.hid (by rw [setC, g]; rfl)
    go_wp2_with fail
    go_ret2
    exact ⟨by rw [HV.out, HC.out]; rfl, B1.out⟩
  | true =>
    have HV : Hid (setV ⟨n, v, d, p, he, ha, hp, x, a, s, sc, ho⟩ = setB ⟨n, v, d, p, he, ha, hp, x, a, s, sc, ho⟩) := Lib.hid (by rw [setV, g]; rfl)
    have HC : Hid (setC ⟨n, v, d, p, he, ha, hp, x, a, s, sc, ho⟩ = 0) := Lib.hid (by rw [setC, g]; rfl)
    have HG := Lib.hid g
    clear g
    obtain ⟨c0, c1, c2, c3, c4, c5, c6, c7, c8, c9, c10, c11⟩ := P1.out.at
    go_wp2_with fail
    refine (specTextAll n v d p he ha hp x a s sc ho _ HG.out).mono ?_
    rintro e w2 ⟨rfl, hb⟩
    have B2 := Lib.hid (B1.out.trans (hb.mono B1.out.size))
    clear hb
    clear c0 c1 c2 c3 c4 c5 c6 c7 c8 c9 c10 c11
    go_wp2_with fail
    go_ret2
    exact ⟨by rw [HV.out, HC.out]; rfl, B2.out⟩
end Go.Proofs.YtpdonghdnaehhaaGreatDoor

namespace Go.Proofs.YtpdonghdnaehhaaGreatDoor
open Go.ChangeShapes Go.WideShapes Go.ChangeAt Go.WideMaps Go.WideElems Go.RowKit

theorem good_sizes {q : Ps} (h : psGood q) : q.n.size ≤ 100 ∧ q.v.size ≤ 100 ∧ q.d.size ≤ 60 ∧ q.p.size ≤ 60 ∧ (-11644473600 ≤ q.x ∧ q.x ≤ 253402300799) ∧ (-1000000000000 ≤ q.a ∧ q.a ≤ 1000000000000) := by
  obtain ⟨n, v, d, p, he, ha, hp, x, a, s, sc, ho⟩ := q
  obtain ⟨h1, h2, h3, h4, h5, h6⟩ := set_sizes h.1
  exact ⟨by show n.size ≤ 100; omega, by show v.size ≤ 100; omega, h2, h3, h4, h5⟩
theorem setB_small {q : Ps} (h : psGood q) : (setB q).size ≤ 620 := by
  obtain ⟨n, v, d, p, he, ha, hp, x, a, s, sc, ho⟩ := q
  obtain ⟨h1, h2, h3, h4, h5, h6⟩ := set_sizes h.1
  unfold setB
  refine add_size7 (add_size6 (add_size5 (add_size4 (add_size3 (add_size2 (add_size1 ?_ (text_size _)) (age_size h5.1 h5.2)) h2) h3)))
  unfold cat0
  rw [ByteArray.size_append, ByteArray.size_append]
  show n.size + 1 + v.size ≤ 101
  omega
theorem setV_good {q : Ps} (h : psGood q) : setV q = setB q ∧ setC q = 0 := by
  unfold setV setC
  rw [h.1]
  exact ⟨rfl, rfl⟩
def NamAll (w : World) : Prop := PrAt w ∧ NamesAt w
theorem NamAll.below {w w' : World} (h : NamAll w) (hb : Below w.heap.size w w') : NamAll w' := ⟨h.1.below hb, h.2.below hb⟩
theorem headSet (q : Ps) (w : World) (h : psGood q) (hA : NamAll w) : Calls Tryz.prog 10 #[.agg #[.string q.n, .string q.v, .string q.d, .string q.p, .bool q.he, .bool q.ha, .bool q.hp, .int .i64 q.x, .int .i64 q.a, .int .i64 q.s, .bool q.sc, .bool q.ho]] w fun e w' => e = .returned (.tuple #[.string (setB q), .int .i64 0]) ∧ Below w.heap.size w w' := by
  obtain ⟨s1, s2, s3, s4, _⟩ := good_sizes h
  obtain ⟨e1, e2⟩ := setV_good h
  have hh := implSet q.n q.v q.d q.p q.he q.ha q.hp q.x q.a q.s q.sc q.ho w (by omega) (by omega) (by omega) (by omega) hA.1.1 hA.2 hA.1.2.2.2
  rw [show (⟨q.n, q.v, q.d, q.p, q.he, q.ha, q.hp, q.x, q.a, q.s, q.sc, q.ho⟩ : Ps) = q from rfl, e1, e2] at hh
  exact hh
theorem headSetS (q : Ps) (w : World) (h : psGood q) : Calls Tryz.prog 11 #[.agg #[.string q.n, .string q.v, .string q.d, .string q.p, .bool q.he, .bool q.ha, .bool q.hp, .int .i64 q.x, .int .i64 q.a, .int .i64 q.s, .bool q.sc, .bool q.ho]] w fun e w' => e = .returned (.tuple #[.string (setB q), .int .i64 0]) ∧ Below w.heap.size w w' := by
  obtain ⟨s1, s2, s3, s4, _⟩ := good_sizes h
  obtain ⟨e1, e2⟩ := setV_good h
  have hh := specSet q.n q.v q.d q.p q.he q.ha q.hp q.x q.a q.s q.sc q.ho w (by omega) (by omega) (by omega) (by omega)
  rw [show (⟨q.n, q.v, q.d, q.p, q.he, q.ha, q.hp, q.x, q.a, q.s, q.sc, q.ho⟩ : Ps) = q from rfl, e1, e2] at hh
  exact hh
theorem headOK (q : Ps) (w : World) (h : psGood q) (hA : NamAll w) : Calls Tryz.prog 13 #[.agg #[.string q.n, .string q.v, .string q.d, .string q.p, .bool q.he, .bool q.ha, .bool q.hp, .int .i64 q.x, .int .i64 q.a, .int .i64 q.s, .bool q.sc, .bool q.ho]] w fun e w' => e = .returned (.bool true) ∧ Below w.heap.size w w' := by
  obtain ⟨s1, s2, s3, s4, _⟩ := good_sizes h
  have hh := parsedOK_any q.n q.v q.d q.p q.he q.ha q.hp q.x q.a q.s q.sc q.ho w (by omega) (by omega) (by omega) (by omega) hA.1.1
  rw [show (⟨q.n, q.v, q.d, q.p, q.he, q.ha, q.hp, q.x, q.a, q.s, q.sc, q.ho⟩ : Ps) = q from rfl, h.1] at hh
  exact hh
theorem headBack (q : Ps) (w : World) (h : psGood q) (hA : NamAll w) : Calls Tryz.prog 12 #[.string (setB q)] w fun e w' => e = .returned (.tuple #[.agg #[.string q.n, .string q.v, .string q.d, .string q.p, .bool q.he, .bool q.ha, .bool q.hp, .int .i64 q.x, .int .i64 q.a, .int .i64 q.s, .bool q.sc, .bool q.ho], .int .i64 0]) ∧ Below w.heap.size w w' := by
  have hz := setB_small h
  obtain ⟨e1, e2⟩ := back_set h (by omega)
  have hh := implParse (setB q) w (by unfold maxLen; omega) hA.1
  rw [e1, e2] at hh
  exact hh
theorem headMore (q : Ps) (w : World) (h : psGood q) (hA : NamAll w) : Calls Tryz.prog 12 #[.string (setB q ++ moreT)] w fun e w' => e = .returned (.tuple #[.agg #[.string q.n, .string q.v, .string q.d, .string ⟨#[47, 122, 122]⟩, .bool q.he, .bool true, .bool true, .int .i64 q.x, .int .i64 7, .int .i64 2, .bool true, .bool q.ho], .int .i64 0]) ∧ Below w.heap.size w w' := by
  have hz := setB_small h
  have hm : moreT.size = 45 := by decide +kernel
  have hs : (setB q ++ moreT).size ≤ 65536 := by
    rw [ByteArray.size_append]
    omega
  obtain ⟨e1, e2⟩ := back_more h hs
  have hh := implParse (setB q ++ moreT) w (by unfold maxLen; omega) hA.1
  rw [e1, e2] at hh
  exact hh
-- what a line tells: one answer of both sides
theorem lineImpl (t : ByteArray) (w : World) (ht : t.size ≤ 65536) (hA : NamAll w) : Calls Tryz.prog 12 #[.string t] w fun e w' => ∃ q : Ps, q = parP t ∧ e = .returned (.tuple #[.agg #[.string q.n, .string q.v, .string q.d, .string q.p, .bool q.he, .bool q.ha, .bool q.hp, .int .i64 q.x, .int .i64 q.a, .int .i64 q.s, .bool q.sc, .bool q.ho], .int .i64 (parC t)]) ∧ Below w.heap.size w w' := by
  refine (implParse t w (by unfold maxLen; omega) hA.1).mono ?_
  rintro e w' ⟨rfl, hb⟩
  exact ⟨parP t, rfl, rfl, hb⟩
end Go.Proofs.YtpdonghdnaehhaaGreatDoor
