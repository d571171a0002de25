/- SetText of the program: what it answers. No condition of its own. -/
import Derived.Test.YtpdonghdnaehhaaGreatDoorZGg
import Derived.Test.YtpdonghdnaehhaaGreatDoorZGi
import Derived.Test.YtpdonghdnaehhaaGreatDoorZTextLaw
import Derived.Test.YtpdonghdnaehhaaGreatDoorZSite
import Derived.Deep.DeepCutAuto
import Derived.Test.YtpdonghdnaehhaaGreatDoorZSetMath
import Derived.Test.YtpdonghdnaehhaaGreatDoorZPairs
import Derived.Test.YtpdonghdnaehhaaGreatDoorZReadDate
import Derived.Test.YtpdonghdnaehhaaGreatDoorZGf
import Derived.Test.YtpdonghdnaehhaaGreatDoorZGh
import Derived.Maps.OwnSet
import Derived.Maps.OwnOps
import Derived.Test.YtpdonghdnaehhaaGreatDoorZSpecRead
import Derived.Shelf.LaysM
import Derived.Stop.LaidErr
namespace Go.Proofs.YtpdonghdnaehhaaGreatDoor
open Go.ChangeShapes Go.WideShapes Go.ChangeAt Go.WideMaps Go.WideElems Go.RowKit

noncomputable def setB (q : Ps) : ByteArray := addT (addH (addS (addP (addD (addA (addE (cat0 q.n q.v) q.he (textV (dateN q.x))) q.ha ⟨(Lib.itoa q.a).toArray⟩) q.d) q.hp q.p) q.sc) q.ho) q.s
/-- What SetText answers. -/
noncomputable def setV (q : Ps) : ByteArray := if psOK q then setB q else ⟨#[]⟩
def setC (q : Ps) : Int := if psOK q then 0 else 1
theorem text_size (a : Dt) : (textV a).size ≤ 140 := by
  unfold textV
  cases hok : okB a with
  | false => exact Nat.zero_le _
  | true =>
    obtain ⟨y, m, d, h, q, s⟩ := a
    obtain ⟨kk, hk, hk7⟩ := week_nat ⟨y, m, d, h, q, s⟩
    obtain ⟨⟨hy1, hy2⟩, ⟨hm1, hm2⟩, _⟩ := (ok_iff _).1 hok
    simp only at hy1 hy2 hm1 hm2
    obtain ⟨mm, rfl⟩ : ∃ mm : Nat, m = mm := ⟨m.toNat, by omega⟩
    rw [if_pos rfl, hk]
    have h1 : (dnam kk).data.toList.length = 3 := by simpa using dnam_size hk7
    have h2 : (mnam mm).data.toList.length = 3 := by simpa using mnam_size (k := mm) (by omega) (by omega)
    have h3 : (Lib.itoa y).length ≤ 100 := by simpa [ByteArray.size] using year_size (y := y) (by omega) hy2
    have e : (⟨(txtL (dnam kk).data.toList (mnam mm).data.toList y d h q s).toArray⟩ : ByteArray).size = (txtL (dnam kk).data.toList (mnam mm).data.toList y d h q s).length := by simp [ByteArray.size]
    rw [e]
    simp only [txtL, twoL, List.length_append, List.length_cons, List.length_nil, h1, h2]
    omega
theorem age_size {a : Int} (h1 : -1000000000000 ≤ a) (h2 : a ≤ 1000000000000) : (⟨(Lib.itoa a).toArray⟩ : ByteArray).size ≤ 20 := by
  unfold Lib.itoa
  split
  · have := digT_size 12 a.natAbs (by omega)
    simp only [digT, ByteArray.size, List.size_toArray] at this ⊢
    simp only [List.length_cons]
    omega
  · have := digT_size 12 a.toNat (by omega)
    simp only [digT, ByteArray.size, List.size_toArray] at this ⊢
    omega
theorem set_sizes {n v d p : ByteArray} {he ha hp : Bool} {x a s : Int} {sc ho : Bool} (h : psOK ⟨n, v, d, p, he, ha, hp, x, a, s, sc, ho⟩ = true) : n.size + v.size ≤ 100 ∧ d.size ≤ 60 ∧ p.size ≤ 60 ∧ (-11644473600 ≤ x ∧ x ≤ 253402300799) ∧ (-1000000000000 ≤ a ∧ a ≤ 1000000000000) ∧ (1 ≤ s ∧ s ≤ 4) := by
  simp only [psOK, Bool.and_eq_true] at h
  obtain ⟨h1, h2, h3, h4, h5, h6⟩ := h
  simp only [pairOKB, Bool.and_eq_true, decide_eq_true_eq] at h1
  simp only [domOKB, Bool.and_eq_true, decide_eq_true_eq] at h2
  simp only [ageOKB, Bool.and_eq_true, decide_eq_true_eq] at h4
  simp only [expOKB, Bool.and_eq_true, decide_eq_true_eq] at h5
  simp only [siteOKB, Bool.and_eq_true, decide_eq_true_eq] at h6
  refine ⟨h1.2.1, ?_, ?_, h5.1, ⟨h4.1, h4.2.1⟩, h6⟩
  · have := h2.1
    split at this <;> omega
  · unfold pathOKB at h3
    split at h3
    · simp only [Bool.and_eq_true, decide_eq_true_eq] at h3
      exact h3.1
    · simp only [decide_eq_true_eq] at h3
      omega
theorem expires_any (x : Int) (w : World) (h1 : -11644473600 ≤ x) (h2 : x ≤ 253402300799) (hN : NamesAt w) : Calls Tryz.prog 66 #[.int .i64 x] w fun e w' => e = .returned (.string (textV (dateN x))) ∧ Below w.heap.size w w' := by
  have HN := Lib.hid hN
  clear hN
  go_enter Tryz.func66, Tryz.ntmps66
  go_wp2_with fail
  refine (implDateIn x _ h1 h2).mono ?_
  rintro e w1 ⟨y, m, d, h, q, s, hd, rfl, hb⟩
  have HE : Hid (textV (dateN x) = textV ⟨y, m, d, h, q, s⟩) := Lib.hid (by rw [dateN_is hd])
  have B1 := Lib.hid (hb.alloc hb.size (.cells #[.int .i64 y, .int .i64 m, .int .i64 d, .int .i64 h, .int .i64 q, .int .i64 s] 158))
  clear hb hd
  go_wp2_with fail
  refine (implText y m d h q s _ (HN.out.below B1.out)).mono ?_
  rintro e w2 ⟨rfl, hb⟩
  have B2 := Lib.hid (B1.out.trans (hb.mono B1.out.size))
  clear hb
  go_wp2_with fail
  go_ret
  exact ⟨by rw [HE.out]; rfl, B2.out⟩
theorem domainText_any (d : ByteArray) (w : World) (h : d.size ≤ 1000) : Calls Tryz.prog 68 #[.string d] w fun e w' => e = .returned (.string (domT d)) ∧ w = w' := by
  cases g : dotB d with
  | true =>
    have G := Lib.hid g
    unfold dotB at g
    go_enter Tryz.func68, Tryz.ntmps68
    go_wp2_with fail
    refine (prefix_any d 46 _).mono ?_
    rintro e w' ⟨rfl, rfl⟩
    rw [g]
    clear g
    go_wp2_with fail
    go_ret
    exact ⟨by rw [domT, G.out]; rfl, rfl⟩
  | false =>
    have G := Lib.hid g
    unfold dotB at g
    go_enter Tryz.func68, Tryz.ntmps68
    go_wp2_with fail
    refine (prefix_any d 46 _).mono ?_
    rintro e w' ⟨rfl, rfl⟩
    rw [g]
    clear g
    go_wp2_with fail
    go_ret
    exact ⟨by rw [domT, G.out]; rfl, rfl⟩
theorem SitesAt.one {w : World} (h : SitesAt w) : w.cell? ⟨0, 1, none⟩ = some (.string ⟨#[78, 111, 110, 101]⟩) := h.cell 1 (by omega)
theorem SitesAt.two {w : World} (h : SitesAt w) : w.cell? ⟨0, 2, none⟩ = some (.string ⟨#[76, 97, 120]⟩) := h.cell 2 (by omega)
theorem SitesAt.three {w : World} (h : SitesAt w) : w.cell? ⟨0, 3, none⟩ = some (.string ⟨#[83, 116, 114, 105, 99, 116]⟩) := h.cell 3 (by omega)
theorem age_any (a : Int) (w : World) (h1 : -1000000000000 ≤ a) (h2 : a ≤ 1000000000000) (hP : PowAt w) : Calls Tryz.prog 67 #[.int .i64 a] w fun e w' => e = .returned (.string ⟨(Lib.itoa a).toArray⟩) ∧ Below w.heap.size w w' := by
  refine (Tryz.strconv_Itoa a (by omega) (by omega) w hP).mono ?_
  rintro e w' ⟨rfl, hw⟩
  exact ⟨rfl, grow_below hw⟩
theorem dom_size {d : ByteArray} (h : d.size ≤ 60) : (domT d).size ≤ 61 := by
  unfold domT
  split
  · rw [ByteArray.size_append]
    show 1 + _ ≤ _
    omega
  · omega
theorem add_size1 {t E : ByteArray} {he : Bool} (h : t.size ≤ 101) (hE : E.size ≤ 140) : (addE t he E).size ≤ 300 := by
  unfold addE
  split
  · rw [ByteArray.size_append, ByteArray.size_append]; show _ + (10 + _) ≤ _; omega
  · omega
theorem add_size2 {t E : ByteArray} {he : Bool} (h : t.size ≤ 300) (hE : E.size ≤ 20) : (addA t he E).size ≤ 350 := by
  unfold addA
  split
  · rw [ByteArray.size_append, ByteArray.size_append]; show _ + (10 + _) ≤ _; omega
  · omega
theorem add_size3 {t d : ByteArray} (h : t.size ≤ 350) (hd : d.size ≤ 60) : (addD t d).size ≤ 450 := by
  unfold addD
  have := dom_size hd
  split
  · omega
  · rw [ByteArray.size_append, ByteArray.size_append]; show _ + (9 + _) ≤ _; omega
theorem add_size4 {t p : ByteArray} {hp : Bool} (h : t.size ≤ 450) (hd : p.size ≤ 60) : (addP t hp p).size ≤ 550 := by
  unfold addP
  split
  · rw [ByteArray.size_append, ByteArray.size_append]; show _ + (7 + _) ≤ _; omega
  · omega
theorem add_size5 {t : ByteArray} {hp : Bool} (h : t.size ≤ 550) : (addS t hp).size ≤ 560 := by
  unfold addS
  split
  · rw [ByteArray.size_append]; show _ + 8 ≤ _; omega
  · omega
theorem add_size6 {t : ByteArray} {hp : Bool} (h : t.size ≤ 560) : (addH t hp).size ≤ 580 := by
  unfold addH
  split
  · rw [ByteArray.size_append]; show _ + 10 ≤ _; omega
  · omega
theorem add_size7 {t : ByteArray} {s : Int} (h : t.size ≤ 580) : (addT t s).size ≤ 620 := by
  unfold addT siteW
  split
  · omega
  · rw [ByteArray.size_append, ByteArray.size_append]
    show _ + (11 + _) ≤ _
    split
    · show _ + (11 + 4) ≤ _; omega
    · split
      · show _ + (11 + 3) ≤ _; omega
      · show _ + (11 + 6) ≤ _; omega
def TxCut (w : World) (t : ByteArray) (n v d p : ByteArray) (he ha hp : Bool) (x a s : Int) (sc ho : Bool) (u : Value) (wx : World) : Prop := u = .string t ∧ PsB wx w.heap.size n v d p he ha hp x a s sc ho ∧ Below w.heap.size w wx
set_option maxHeartbeats 60000000 in
set_option maxRecDepth 100000 in
theorem implSet (n v d p : ByteArray) (he ha hp : Bool) (x a s : Int) (sc ho : Bool) (w : World) (hn : n.size ≤ 1048576) (hv : v.size ≤ 1048576) (hd : d.size ≤ 1048576) (hpp : p.size ≤ 1048576) (hT : TabAt w) (hN : NamesAt w) (hW : SitesAt w) :
    Calls Tryz.prog 10 #[.agg #[.string n, .string v, .string d, .string p, .bool he, .bool ha, .bool hp, .int .i64 x, .int .i64 a, .int .i64 s, .bool sc, .bool ho]] w fun e w' => e = .returned (.tuple #[.string (setV ⟨n, v, d, p, he, ha, hp, x, a, s, sc, ho⟩), .int .i64 (setC ⟨n, v, d, p, he, ha, hp, x, a, s, sc, ho⟩)]) ∧ Below w.heap.size w w' := by
  have HT := Lib.hid hT
  have HNM := Lib.hid hN
  have HW := Lib.hid hW
  clear hT hN hW
  have B0 := Lib.hid ((Below.refl w.heap.size w).alloc (Nat.le_refl _) (.cells #[.string n, .string v, .string d, .string p, .bool he, .bool ha, .bool hp, .int .i64 x, .int .i64 a, .int .i64 s, .bool sc, .bool ho] 24))
  have P0 := Lib.hid (PsB.new w n v d p he ha hp x a s sc ho)
  go_enter Tryz.func10, Tryz.ntmps10
  go_wp2_with fail
  refine (parsedOK_any n v d p he ha hp x a s sc ho _ hn hv hd hpp (HT.out.below B0.out)).mono ?_
  rintro e w1 ⟨rfl, hb⟩
  have B1 := Lib.hid (B0.out.trans (hb.mono B0.out.size))
  have P1 := Lib.hid (P0.out.stays hb)
  clear hb P0 B0
  cases g : psOK ⟨n, v, d, p, he, ha, hp, x, a, s, sc, ho⟩ with
  | false =>
    have HV : Hid (setV ⟨n, v, d, p, he, ha, hp, x, a, s, sc, ho⟩ = ⟨#[]⟩) := Lib.hid (by rw [setV, g]; rfl)
    have HC : Hid (setC ⟨n, v, d, p, he, ha, hp, x, a, s, sc, ho⟩ = 1) := Lib.hid (by rw [setC, g]; rfl)
    go_wp2_with fail
    go_ret2
    exact ⟨by rw [HV.out, HC.out]; rfl, B1.out⟩
  | true =>
    have HV : Hid (setV ⟨n, v, d, p, he, ha, hp, x, a, s, sc, ho⟩ = setB ⟨n, v, d, p, he, ha, hp, x, a, s, sc, ho⟩) := Lib.hid (by rw [setV, g]; rfl)
    have HC : Hid (setC ⟨n, v, d, p, he, ha, hp, x, a, s, sc, ho⟩ = 0) := Lib.hid (by rw [setC, g]; rfl)
    obtain ⟨z1, z2, z3, ⟨z4, z5⟩, ⟨z6, z7⟩, ⟨z8, z9⟩⟩ := set_sizes g
    have zE := text_size (dateN x)
    have zA := age_size z6 z7
    obtain ⟨E, hE⟩ : ∃ E, textV (dateN x) = E := ⟨_, rfl⟩
    obtain ⟨G, hG⟩ : ∃ G : ByteArray, ⟨(Lib.itoa a).toArray⟩ = G := ⟨_, rfl⟩
    rw [hE] at zE
    rw [hG] at zA
    have HE := Lib.hid hE
    have HG := Lib.hid hG
    have HSB : Hid (setB ⟨n, v, d, p, he, ha, hp, x, a, s, sc, ho⟩ = addT (addH (addS (addP (addD (addA (addE (cat0 n v) he E) ha G) d) hp p) sc) ho) s) := Lib.hid (by unfold setB; simp only [hE, hG])
    clear hE hG
    have zt0 : (cat0 n v).size ≤ 101 := by unfold cat0; rw [ByteArray.size_append, ByteArray.size_append]; show _ + 1 + _ ≤ _; omega
    clear g
    obtain ⟨c0, c1, c2, c3, c4, c5, c6, c7, c8, c9, c10, c11⟩ := P1.out.at
    go_upto_if 15 with fail
    go_cut [4] (fun u wx => TxCut w (addE (cat0 n v) he E) n v d p he ha hp x a s sc ho u wx)
    case first =>
      cases he with
      | false =>
        go_wp2_with fail
        go_meet
        exact ⟨rfl, P1.out, B1.out⟩
      | true =>
        go_wp2_with fail
        refine (expires_any x _ z4 z5 (HNM.out.below B1.out)).mono ?_
        rintro e w2 ⟨rfl, hb⟩
        rw [HE.out]
        have B2 := Lib.hid (B1.out.trans (hb.mono B1.out.size))
        have P2 := Lib.hid (P1.out.stays hb)
        clear hb
        go_wp2_with fail
        go_meet
        exact ⟨rfl, P2.out, B2.out⟩
    case rest =>
      rename_i wk
      obtain ⟨rfl, P, B⟩ := hcut
      have P := Lib.hid P
      have B := Lib.hid B
      clear c0 c1 c2 c3 c4 c5 c6 c7 c8 c9 c10 c11
      obtain ⟨c0, c1, c2, c3, c4, c5, c6, c7, c8, c9, c10, c11⟩ := P.out.at
      obtain ⟨t1, ht1⟩ : ∃ t, addE (cat0 n v) he E = t := ⟨_, rfl⟩
      have zt1 : t1.size ≤ 300 := by rw [← ht1]; exact add_size1 zt0 zE
      rw [ht1]
      rw [ht1] at HSB
      clear ht1
      go_upto_if 23 with fail
      go_cut [4] (fun u wx => TxCut w (addA t1 ha G) n v d p he ha hp x a s sc ho u wx)
      case first =>
        cases ha with
        | false =>
          go_wp2_with fail
          go_meet
          exact ⟨rfl, P.out, B.out⟩
        | true =>
          go_wp2_with fail
          refine (age_any a _ z6 z7 (HNM.out.below B.out).2.2).mono ?_
          rintro e w2 ⟨rfl, hb⟩
          rw [HG.out]
          have B2 := Lib.hid (B.out.trans (hb.mono B.out.size))
          have P2 := Lib.hid (P.out.stays hb)
          clear hb
          go_wp2_with fail
          go_meet
          exact ⟨rfl, P2.out, B2.out⟩
      case rest =>
        rename_i wk
        obtain ⟨rfl, P, B⟩ := hcut
        have P := Lib.hid P
        have B := Lib.hid B
        clear c0 c1 c2 c3 c4 c5 c6 c7 c8 c9 c10 c11
        obtain ⟨c0, c1, c2, c3, c4, c5, c6, c7, c8, c9, c10, c11⟩ := P.out.at
        obtain ⟨t2, ht2⟩ : ∃ t, addA t1 ha G = t := ⟨_, rfl⟩
        have zt2 : t2.size ≤ 350 := by rw [← ht2]; exact add_size2 zt1 zA
        rw [ht2]
        rw [ht2] at HSB
        clear ht2
        go_upto_if 32 with fail
        go_cut [4] (fun u wx => TxCut w (addD t2 d) n v d p he ha hp x a s sc ho u wx)
        case first =>
          cases ed : d.toList.isEmpty with
          | true =>
            have hd0 := empty_size ed
            go_wp2_with fail
            go_meet
            exact ⟨by rw [addD, if_pos hd0], P.out, B.out⟩
          | false =>
            have hd0 : ¬ d.size = 0 := by have := some_size ed; omega
            have zd : (domT d).size ≤ 61 := dom_size z2
            go_wp2_with fail
            refine (domainText_any d _ (by omega)).mono ?_
            rintro e w' ⟨rfl, rfl⟩
            go_wp2_with fail
            go_meet
            exact ⟨by rw [addD, if_neg hd0]; rfl, P.out, B.out⟩
        case rest =>
          rename_i wk
          obtain ⟨rfl, P, B⟩ := hcut
          have P := Lib.hid P
          have B := Lib.hid B
          clear c0 c1 c2 c3 c4 c5 c6 c7 c8 c9 c10 c11
          obtain ⟨c0, c1, c2, c3, c4, c5, c6, c7, c8, c9, c10, c11⟩ := P.out.at
          obtain ⟨t3, ht3⟩ : ∃ t, addD t2 d = t := ⟨_, rfl⟩
          have zt3 : t3.size ≤ 450 := by rw [← ht3]; exact add_size3 zt2 z2
          rw [ht3]
          rw [ht3] at HSB
          clear ht3
          go_upto_if 40 with fail
          go_cut [4] (fun u wx => TxCut w (addP t3 hp p) n v d p he ha hp x a s sc ho u wx)
          case first =>
            cases hp with
            | false =>
              go_wp2_with fail
              go_meet
              exact ⟨rfl, P.out, B.out⟩
            | true =>
              go_wp2_with fail
              go_meet
              exact ⟨rfl, P.out, B.out⟩
          case rest =>
            rename_i wk
            obtain ⟨rfl, P, B⟩ := hcut
            have P := Lib.hid P
            have B := Lib.hid B
            clear c0 c1 c2 c3 c4 c5 c6 c7 c8 c9 c10 c11
            obtain ⟨c0, c1, c2, c3, c4, c5, c6, c7, c8, c9, c10, c11⟩ := P.out.at
            obtain ⟨t4, ht4⟩ : ∃ t, addP t3 hp p = t := ⟨_, rfl⟩
            have zt4 : t4.size ≤ 550 := by rw [← ht4]; exact add_size4 zt3 z3
            rw [ht4]
            rw [ht4] at HSB
            clear ht4
            go_upto_if 47 with fail
            go_cut [4] (fun u wx => TxCut w (addS t4 sc) n v d p he ha hp x a s sc ho u wx)
            case first =>
              cases sc with
              | false =>
                go_wp2_with fail
                go_meet
                exact ⟨rfl, P.out, B.out⟩
              | true =>
                go_wp2_with fail
                go_meet
                exact ⟨rfl, P.out, B.out⟩
            case rest =>
              rename_i wk
              obtain ⟨rfl, P, B⟩ := hcut
              have P := Lib.hid P
              have B := Lib.hid B
              clear c0 c1 c2 c3 c4 c5 c6 c7 c8 c9 c10 c11
              obtain ⟨c0, c1, c2, c3, c4, c5, c6, c7, c8, c9, c10, c11⟩ := P.out.at
              obtain ⟨t5, ht5⟩ : ∃ t, addS t4 sc = t := ⟨_, rfl⟩
              have zt5 : t5.size ≤ 560 := by rw [← ht5]; exact add_size5 zt4
              rw [ht5]
              rw [ht5] at HSB
              clear ht5
              go_upto_if 51 with fail
              go_cut [4] (fun u wx => TxCut w (addH t5 ho) n v d p he ha hp x a s sc ho u wx)
              case first =>
                cases ho with
                | false =>
                  go_wp2_with fail
                  go_meet
                  exact ⟨rfl, P.out, B.out⟩
                | true =>
                  go_wp2_with fail
                  go_meet
                  exact ⟨rfl, P.out, B.out⟩
              case rest =>
                rename_i wk
                obtain ⟨rfl, P, B⟩ := hcut
                have P := Lib.hid P
                have B := Lib.hid B
                clear c0 c1 c2 c3 c4 c5 c6 c7 c8 c9 c10 c11
                obtain ⟨c0, c1, c2, c3, c4, c5, c6, c7, c8, c9, c10, c11⟩ := P.out.at
                obtain ⟨t6, ht6⟩ : ∃ t, addH t5 ho = t := ⟨_, rfl⟩
                have zt6 : t6.size ≤ 580 := by rw [← ht6]; exact add_size6 zt5
                rw [ht6]
                rw [ht6] at HSB
                clear ht6
                go_upto_if 56 with fail
                go_cut [4] (fun u wx => TxCut w (addT t6 s) n v d p he ha hp x a s sc ho u wx)
                case first =>
                  rcases (show s = 1 ∨ s = 2 ∨ s = 3 ∨ s = 4 by omega) with rfl | rfl | rfl | rfl
                  · have cs := (HW.out.below B.out).one
                    go_wp2_with fail
                    go_meet
                    exact ⟨rfl, P.out, B.out⟩
                  · have cs := (HW.out.below B.out).two
                    go_wp2_with fail
                    go_meet
                    exact ⟨rfl, P.out, B.out⟩
                  · have cs := (HW.out.below B.out).three
                    go_wp2_with fail
                    go_meet
                    exact ⟨rfl, P.out, B.out⟩
                  · go_wp2_with fail
                    go_meet
                    exact ⟨rfl, P.out, B.out⟩
                case rest =>
                  rename_i wk
                  obtain ⟨rfl, P, B⟩ := hcut
                  have P := Lib.hid P
                  have B := Lib.hid B
                  clear c0 c1 c2 c3 c4 c5 c6 c7 c8 c9 c10 c11
                  obtain ⟨c0, c1, c2, c3, c4, c5, c6, c7, c8, c9, c10, c11⟩ := P.out.at
                  obtain ⟨t7, ht7⟩ : ∃ t, addT t6 s = t := ⟨_, rfl⟩
                  have zt7 : t7.size ≤ 620 := by rw [← ht7]; exact add_size7 zt6
                  rw [ht7]
                  rw [ht7] at HSB
                  clear ht7
                  go_wp2_with fail
                  go_ret2
                  exact ⟨by rw [HV.out, HC.out, HSB.out]; rfl, B.out⟩
end Go.Proofs.YtpdonghdnaehhaaGreatDoor

namespace Go.Proofs.YtpdonghdnaehhaaGreatDoor
open Go.WideShapes

/-- A part's name and value. -/
def pN (x : ByteArray) : ByteArray := foldB (trimB (leftB x 61))
def pV (x : ByteArray) : ByteArray := trimB (rightB x 61)
def kExpires : ByteArray := ⟨#[101, 120, 112, 105, 114, 101, 115]⟩
def kMaxAge : ByteArray := ⟨#[109, 97, 120, 45, 97, 103, 101]⟩
def kDomain : ByteArray := ⟨#[100, 111, 109, 97, 105, 110]⟩
def kPath : ByteArray := ⟨#[112, 97, 116, 104]⟩
def kSecure : ByteArray := ⟨#[115, 101, 99, 117, 114, 101]⟩
def kHttpOnly : ByteArray := ⟨#[104, 116, 116, 112, 111, 110, 108, 121]⟩
def kSameSite : ByteArray := ⟨#[115, 97, 109, 101, 115, 105, 116, 101]⟩
/-- Which attribute a name is. -/
def atN (u : ByteArray) : Nat := if u = kExpires then 1 else if u = kMaxAge then 2 else if u = kDomain then 3 else if u = kPath then 4 else if u = kSecure then 5 else if u = kHttpOnly then 6 else if u = kSameSite then 7 else 0
def undotB (v : ByteArray) : ByteArray := if dotB v then v.extract 1 v.size else v
/-- What an attribute does. -/
def doA (q : Ps) (k : Nat) (v : ByteArray) : Ps :=
  if k = 1 then (match dateR (readL v.data.toList) with | some d => { q with he := true, x := secsN d } | none => q)
  else if k = 2 then (if decOK v then { q with ha := true, a := decN v } else q)
  else if k = 3 then { q with d := trimB (foldB (undotB v)) }
  else if k = 4 then { q with hp := slashB v, p := if slashB v then v else ⟨#[]⟩ }
  else if k = 5 then { q with sc := true }
  else if k = 6 then { q with ho := true }
  else if k = 7 then { q with s := siteN (foldB v) }
  else q
def attrP (q : Ps) (x : ByteArray) : Ps := if (pV x).size ≤ 60 then doA q (atN (pN x)) (pV x) else q
def ps0 (n v : ByteArray) : Ps := ⟨n, v, ⟨#[]⟩, ⟨#[]⟩, false, false, false, 0, 0, 4, false, false⟩
def psZ : Ps := ⟨⟨#[]⟩, ⟨#[]⟩, ⟨#[]⟩, ⟨#[]⟩, false, false, false, 0, 0, 0, false, false⟩
def partsL (t : ByteArray) : List (List UInt8) := cutL 59 t.data.toList
def headT (t : ByteArray) : ByteArray := ⟨((partsL t).headD []).toArray⟩
def hN (t : ByteArray) : ByteArray := trimB (nB (headT t))
def hV (t : ByteArray) : ByteArray := trimB (vB (headT t))
/-- What the first k parts tell. -/
def foldP (q : Ps) (l : List (List UInt8)) : Ps := l.foldl (fun q x => attrP q ⟨x.toArray⟩) q
/-- What ParseSet answers. -/
def parC (t : ByteArray) : Int := if 65536 < t.size then 2 else if controlOK t then 1 else if (hN t).size + (hV t).size = 0 then 5 else if 100 < (hN t).size + (hV t).size then 8 else 0
def parP (t : ByteArray) : Ps := if parC t = 0 then foldP (ps0 (hN t) (hV t)) ((partsL t).drop 1) else psZ
end Go.Proofs.YtpdonghdnaehhaaGreatDoor

namespace Go.Proofs.YtpdonghdnaehhaaGreatDoor
open Go.ChangeShapes Go.WideShapes Go.ChangeAt Go.WideMaps Go.WideElems Go.RowKit
open Go.Maps (Keyed string_keyed IsMap atKey_put_same atKey_put_other has_put_same has_put_other)

open Classical in
/-- How a reader reads: by its number, if it holds the box g. -/
noncomputable def rdR (g : Nat) (v : Value) : Option (DataW Unit × List MemPlace) :=
  match v with
  | .func (.func n) fs cs => if fs = #[] ∧ cs = #[.pointer (some ⟨g, 0, none⟩)] then some (.lit (.int .i64 n), []) else none
  | .nilFunc => some (.lit (.int .i64 0), [])
  | _ => none
theorem rdR_at (g n : Nat) : rdR g (.func (.func n) #[] #[.pointer (some ⟨g, 0, none⟩)]) = some (.lit (.int .i64 n), []) := by simp [rdR]
theorem rdR_nil (g : Nat) : rdR g .nilFunc = some (.lit (.int .i64 0), []) := rfl
theorem rdR_inv {g n : Nat} {v : Value} {ps : List MemPlace} (hn : 0 < n) (h : rdR g v = some (.lit (.int .i64 n), ps)) : v = .func (.func n) #[] #[.pointer (some ⟨g, 0, none⟩)] := by
  unfold rdR at h
  split at h
  · split at h
    · rename_i m fs cs hb
      obtain ⟨rfl, rfl⟩ := hb
      simp only [Option.some.injEq, Prod.mk.injEq, DataW.lit.injEq, Lit.int.injEq, true_and] at h
      have h1 := h.1
      have h2 : m = n := by exact_mod_cast h1
      rw [h2]
    · cases h
  · simp only [Option.some.injEq, Prod.mk.injEq, DataW.lit.injEq, Lit.int.injEq, true_and] at h
    omega
  · cases h
theorem wpList_insert_own {H : Type} {P : Program} (w : World) {ops : Array Oper} {rest : List Oper} {o : Oper} {a : Act} {Q : Exit → Act → World → Prop}
    (hg : o.guard = none) (m x v : Operand) (t : TypeId) (hop : o.op = Op.insert t m x v)
    (k e : TypeId) (K : Keyed P k) (ht : P.underlying t = some (.map k e)) (R : Value → Option (DataW H × List MemPlace)) (b n : Nat) (D : DataW H)
    (hm : a.eval m = .map (some b)) (hown : w.ownsMap P k R b n D) (hn : n < maxLen) (key val : Value) (kl : Lit) (hx : a.eval x = key) (hv : a.eval v = val) (hkey : keyOf P k key = some kl)
    (d : DataW H) (ps : List MemPlace) (hval : R val = some (d, ps))
    (hK : ∀ w', w'.ownsMap P k R b (n + 1) (D.put kl d) → w.grownBy w' (some b) → wpList P ops Q rest (a.put o.dst undef) w') :
    wpList P ops Q (o :: rest) a w := by
  refine wpList_plain hg fun K' hK' => ?_
  obtain ⟨w', hrun, r1, r2⟩ := hown.update K ht hn hkey hval
  unfold Oper.wp
  simp [execOp, hop, hm, hx, hv, hrun, Result.andThen]
  exact hK' _ _ (hK w' r1 r2)
theorem keyLaw : Keyed Tryz.prog 9 := string_keyed Tryz.underlying9
theorem keyTxt (s : ByteArray) (h : s.size ≤ maxLen) : keyOf Tryz.prog 9 (.string s) = some (.string s.data.toList) := keyOf_string_mk Tryz.underlying9 h
theorem zeroFun (w : World) : (zeroValue 93).run Tryz.prog w = .ok .nilFunc w := by kernel_rfl
/-- Which function reads an attribute. -/
def fnNo (k : Nat) : Nat := if k = 1 then 169 else if k = 2 then 172 else if k = 3 then 173 else if k = 4 then 175 else if k = 5 then 176 else if k = 6 then 177 else if k = 7 then 178 else 0
def putF (D : DataW Unit) (key : ByteArray) (n : Nat) : DataW Unit := D.put (.string key.data.toList) (.lit (.int .i64 n))
def D7 : DataW Unit := putF (putF (putF (putF (putF (putF (putF (.map []) kExpires 169) kMaxAge 172) kDomain 173) kPath 175) kSecure 176) kHttpOnly 177) kSameSite 178
theorem putF_map {D : DataW Unit} (h : IsMap D) (key : ByteArray) (n : Nat) : IsMap (putF D key n) := h.put _ _
theorem putF_at {D : DataW Unit} (h : IsMap D) (key : ByteArray) (n : Nat) (u : ByteArray) (z : DataW Unit) : (putF D key n).atKey (.string u.data.toList) z = if u = key then .lit (.int .i64 n) else D.atKey (.string u.data.toList) z := by
  by_cases e : u = key
  · subst e
    rw [if_pos rfl, putF, atKey_put_same h (by simp [WideAt.IsKeyLit])]
  · rw [if_neg e, putF, atKey_put_other (fun h2 => e (bytes_inj (by simpa using h2)))]
theorem putF_has {D : DataW Unit} (h : IsMap D) (key : ByteArray) (n : Nat) (u : ByteArray) : Maps.has (putF D key n) (.string u.data.toList) = if u = key then true else Maps.has D (.string u.data.toList) := by
  by_cases e : u = key
  · subst e
    rw [if_pos rfl, putF, has_put_same h (by simp [WideAt.IsKeyLit])]
  · rw [if_neg e, putF, has_put_other (fun h2 => e (bytes_inj (by simpa using h2)))]
theorem map0 : IsMap (.map [] : DataW Unit) := ⟨[], rfl⟩
theorem D7_at (u : ByteArray) : D7.atKey (.string u.data.toList) (.lit (.int .i64 0)) = .lit (.int .i64 (fnNo (atN u))) := by
  have m1 := putF_map map0 kExpires 169
  have m2 := putF_map m1 kMaxAge 172
  have m3 := putF_map m2 kDomain 173
  have m4 := putF_map m3 kPath 175
  have m5 := putF_map m4 kSecure 176
  have m6 := putF_map m5 kHttpOnly 177
  rw [D7, putF_at m6, putF_at m5, putF_at m4, putF_at m3, putF_at m2, putF_at m1, putF_at map0]
  by_cases e1 : u = kExpires
  · subst e1
    repeat (first | rw [if_pos rfl] | rw [if_neg (by decide)])
    first | rfl | (rw [show atN kExpires = 1 by decide +kernel]; rfl) | decide +kernel
  by_cases e2 : u = kMaxAge
  · subst e2
    repeat (first | rw [if_pos rfl] | rw [if_neg (by decide)])
    first | rfl | (rw [show atN kMaxAge = 2 by decide +kernel]; rfl) | decide +kernel
  by_cases e3 : u = kDomain
  · subst e3
    repeat (first | rw [if_pos rfl] | rw [if_neg (by decide)])
    first | rfl | (rw [show atN kDomain = 3 by decide +kernel]; rfl) | decide +kernel
  by_cases e4 : u = kPath
  · subst e4
    repeat (first | rw [if_pos rfl] | rw [if_neg (by decide)])
    first | rfl | (rw [show atN kPath = 4 by decide +kernel]; rfl) | decide +kernel
  by_cases e5 : u = kSecure
  · subst e5
    repeat (first | rw [if_pos rfl] | rw [if_neg (by decide)])
    first | rfl | (rw [show atN kSecure = 5 by decide +kernel]; rfl) | decide +kernel
  by_cases e6 : u = kHttpOnly
  · subst e6
    repeat (first | rw [if_pos rfl] | rw [if_neg (by decide)])
    first | rfl | (rw [show atN kHttpOnly = 6 by decide +kernel]; rfl) | decide +kernel
  by_cases e7 : u = kSameSite
  · subst e7
    repeat (first | rw [if_pos rfl] | rw [if_neg (by decide)])
    first | rfl | (rw [show atN kSameSite = 7 by decide +kernel]; rfl) | decide +kernel
  rw [if_neg e7, if_neg e6, if_neg e5, if_neg e4, if_neg e3, if_neg e2, if_neg e1, atN, if_neg e1, if_neg e2, if_neg e3, if_neg e4, if_neg e5, if_neg e6, if_neg e7]
  rfl
theorem D7_has (u : ByteArray) : Maps.has D7 (.string u.data.toList) = decide (0 < atN u) := by
  have m1 := putF_map map0 kExpires 169
  have m2 := putF_map m1 kMaxAge 172
  have m3 := putF_map m2 kDomain 173
  have m4 := putF_map m3 kPath 175
  have m5 := putF_map m4 kSecure 176
  have m6 := putF_map m5 kHttpOnly 177
  rw [D7, putF_has m6, putF_has m5, putF_has m4, putF_has m3, putF_has m2, putF_has m1, putF_has map0]
  by_cases e1 : u = kExpires
  · subst e1
    repeat (first | rw [if_pos rfl] | rw [if_neg (by decide)])
    first | rfl | (rw [show atN kExpires = 1 by decide +kernel]; rfl) | decide +kernel
  by_cases e2 : u = kMaxAge
  · subst e2
    repeat (first | rw [if_pos rfl] | rw [if_neg (by decide)])
    first | rfl | (rw [show atN kMaxAge = 2 by decide +kernel]; rfl) | decide +kernel
  by_cases e3 : u = kDomain
  · subst e3
    repeat (first | rw [if_pos rfl] | rw [if_neg (by decide)])
    first | rfl | (rw [show atN kDomain = 3 by decide +kernel]; rfl) | decide +kernel
  by_cases e4 : u = kPath
  · subst e4
    repeat (first | rw [if_pos rfl] | rw [if_neg (by decide)])
    first | rfl | (rw [show atN kPath = 4 by decide +kernel]; rfl) | decide +kernel
  by_cases e5 : u = kSecure
  · subst e5
    repeat (first | rw [if_pos rfl] | rw [if_neg (by decide)])
    first | rfl | (rw [show atN kSecure = 5 by decide +kernel]; rfl) | decide +kernel
  by_cases e6 : u = kHttpOnly
  · subst e6
    repeat (first | rw [if_pos rfl] | rw [if_neg (by decide)])
    first | rfl | (rw [show atN kHttpOnly = 6 by decide +kernel]; rfl) | decide +kernel
  by_cases e7 : u = kSameSite
  · subst e7
    repeat (first | rw [if_pos rfl] | rw [if_neg (by decide)])
    first | rfl | (rw [show atN kSameSite = 7 by decide +kernel]; rfl) | decide +kernel
  rw [if_neg e7, if_neg e6, if_neg e5, if_neg e4, if_neg e3, if_neg e2, if_neg e1, atN, if_neg e1, if_neg e2, if_neg e3, if_neg e4, if_neg e5, if_neg e6, if_neg e7]
  rfl
/-- The map of the readers lies at M, their box at g. -/
def ReadersAt (w : World) (B g M : Nat) : Prop := w.ownsMap Tryz.prog 9 (rdR g) M 7 D7 ∧ w.cell? ⟨g, 0, none⟩ = some (.pointer (some ⟨B, 0, none⟩)) ∧ g < w.heap.size ∧ g ≠ M
theorem ReadersAt.grown {w w' : World} {B g M : Nat} {r : Option Nat} (h : ReadersAt w B g M) (hg : w.grownBy w' r) (h1 : r ≠ some M) (h2 : r ≠ some g) : ReadersAt w' B g M :=
  ⟨h.1.kept hg h1.symm, (World.cell?_of_block (a := ⟨g, 0, none⟩) (hg.block g h.2.2.1 h2.symm)).trans h.2.1, Nat.lt_of_lt_of_le h.2.2.1 hg.size, h.2.2.2⟩
set_option maxHeartbeats 2000000 in
set_option maxRecDepth 100000 in
theorem readers_any (B : Nat) (w : World) : Calls Tryz.prog 75 #[.pointer (some ⟨B, 0, none⟩)] w fun e w' => e = .returned (.map (some (w.heap.size + 1))) ∧ ReadersAt w' B w.heap.size (w.heap.size + 1) ∧ Below w.heap.size w w' := by
  have hmm := @run_makeMap Tryz.prog
  have h0 := World.ownsMap_made (w.alloc (.cells #[.pointer (some ⟨B, 0, none⟩)] 90)) Tryz.prog 9 (rdR w.heap.size)
  rw [World.size_alloc] at h0
  have H0 := Lib.hid h0
  clear h0
  have k1 := keyTxt kExpires (by decide)
  have k2 := keyTxt kMaxAge (by decide)
  have k3 := keyTxt kDomain (by decide)
  have k4 := keyTxt kPath (by decide)
  have k5 := keyTxt kSecure (by decide)
  have k6 := keyTxt kHttpOnly (by decide)
  have k7 := keyTxt kSameSite (by decide)
  go_enter Tryz.func75, Tryz.ntmps75
  go_wp2_with (first
    | (refine wpList_insert_own _ rfl _ _ _ 88 rfl 9 93 keyLaw Tryz.underlying88 _ (w.heap.size + 1) 0 _ rfl H0.out (by unfold maxLen; omega) _ _ _ rfl rfl k1 _ [] (rdR_at w.heap.size 169) ?_; intro w1 hown1 hgrow1)
    | (refine wpList_insert_own _ rfl _ _ _ 88 rfl 9 93 keyLaw Tryz.underlying88 _ (w.heap.size + 1) 1 _ rfl hown1 (by unfold maxLen; omega) _ _ _ rfl rfl k2 _ [] (rdR_at w.heap.size 172) ?_; intro w2 hown2 hgrow2)
    | (refine wpList_insert_own _ rfl _ _ _ 88 rfl 9 93 keyLaw Tryz.underlying88 _ (w.heap.size + 1) 2 _ rfl hown2 (by unfold maxLen; omega) _ _ _ rfl rfl k3 _ [] (rdR_at w.heap.size 173) ?_; intro w3 hown3 hgrow3)
    | (refine wpList_insert_own _ rfl _ _ _ 88 rfl 9 93 keyLaw Tryz.underlying88 _ (w.heap.size + 1) 3 _ rfl hown3 (by unfold maxLen; omega) _ _ _ rfl rfl k4 _ [] (rdR_at w.heap.size 175) ?_; intro w4 hown4 hgrow4)
    | (refine wpList_insert_own _ rfl _ _ _ 88 rfl 9 93 keyLaw Tryz.underlying88 _ (w.heap.size + 1) 4 _ rfl hown4 (by unfold maxLen; omega) _ _ _ rfl rfl k5 _ [] (rdR_at w.heap.size 176) ?_; intro w5 hown5 hgrow5)
    | (refine wpList_insert_own _ rfl _ _ _ 88 rfl 9 93 keyLaw Tryz.underlying88 _ (w.heap.size + 1) 5 _ rfl hown5 (by unfold maxLen; omega) _ _ _ rfl rfl k6 _ [] (rdR_at w.heap.size 177) ?_; intro w6 hown6 hgrow6)
    | (refine wpList_insert_own _ rfl _ _ _ 88 rfl 9 93 keyLaw Tryz.underlying88 _ (w.heap.size + 1) 6 _ rfl hown6 (by unfold maxLen; omega) _ _ _ rfl rfl k7 _ [] (rdR_at w.heap.size 178) ?_; intro w7 hown7 hgrow7)
    | go_in)
  go_ret
  have hG : ((w.alloc (.cells #[.pointer (some ⟨B, 0, none⟩)] 90)).alloc (.map #[] 0)).grownBy w7 (some (w.heap.size + 1)) := grown_then hgrow1 (grown_then hgrow2 (grown_then hgrow3 (grown_then hgrow4 (grown_then hgrow5 (grown_then hgrow6 hgrow7)))))
  have hc : ((w.alloc (.cells #[.pointer (some ⟨B, 0, none⟩)] 90)).alloc (.map #[] 0)).heap[w.heap.size]? = some (.cells #[.pointer (some ⟨B, 0, none⟩)] 90 (0, 0)) := (Below.heap_alloc _ _ _ (by simp)).trans (heap_alloc_new w _)
  have hc7 := (hG.block w.heap.size (by simp; omega) (by simp)).trans hc
  refine ⟨rfl, ⟨hown7, by simp [World.cell?, hc7], ?_, by omega⟩, (((Below.refl _ w).alloc (Nat.le_refl _) _).alloc (by simp) _).grown hG (by simp; omega) (fun k e => by cases e; omega)⟩
  have := hG.size
  simp at this
  omega
end Go.Proofs.YtpdonghdnaehhaaGreatDoor

namespace Go.Proofs.YtpdonghdnaehhaaGreatDoor
open Go.WideShapes

theorem ne_of_not {c : UInt8} {l : List UInt8} (h : c ∉ l) : ∀ b ∈ l, b ≠ c := fun _ hb e => h (e ▸ hb)
theorem cut_flat : ∀ (ps : List (List UInt8)) (l : List UInt8), (59 : UInt8) ∉ l → (∀ p ∈ ps, (59 : UInt8) ∉ p) → cutL 59 (l ++ ps.flatMap fun p => 59 :: p) = l :: ps
  | [], l, hl, _ => by rw [List.flatMap_nil, List.append_nil, cutL_none (ne_of_not hl)]
  | p :: ps, l, hl, h => by
    rw [List.flatMap_cons, List.cons_append, cutL_hit (ne_of_not hl), cut_flat ps p (h p (by simp)) (fun q hq => h q (by simp [hq]))]
/-- A text as bytes. -/
theorem of_data (s : ByteArray) : (⟨s.data.toList.toArray⟩ : ByteArray) = s := by simp
theorem all_iff {s : ByteArray} {p : UInt8 → Bool} : allB s p = true ↔ ∀ b ∈ s.data.toList, p b = true := by
  unfold allB
  rw [List.all_eq_true]
theorem none_iff {s : ByteArray} {c : UInt8} : allB s (noneB c) = true ↔ c ∉ s.data.toList := by
  rw [all_iff]
  constructor
  · intro h hc
    have := h c hc
    simp [noneB] at this
  · intro h b hb
    have : b ≠ c := fun e => h (e ▸ hb)
    simpa [noneB] using this
theorem plainS_iff {s : ByteArray} (hs : s.size ≤ 65536) : plainS s = true ↔ (∀ b ∈ s.data.toList, plainB b = true) ∧ (59 : UInt8) ∉ s.data.toList ∧ trimB s = s := by
  unfold plainS controlOK
  rw [decide_eq_true hs, Bool.true_and, Bool.not_not, Bool.and_eq_true, Bool.and_eq_true, none_iff, all_iff]
  constructor
  · rintro ⟨⟨h1, h2⟩, h3⟩
    exact ⟨h1, h2, seq_of h3⟩
  · rintro ⟨h1, h2, h3⟩
    exact ⟨⟨h1, h2⟩, seq_true h3⟩
/-- A part with a value: its name and value. -/
def kvL (k v : List UInt8) : List UInt8 := k ++ 61 :: v
theorem find_kv {k v : List UInt8} (hk : (61 : UInt8) ∉ k) : (kvL k v).findIdx (· == 61) = k.length := by
  unfold kvL
  rw [List.findIdx_append]
  have : k.findIdx (· == 61) = k.length := by
    rw [List.findIdx_eq_length]
    intro x hx
    have : x ≠ 61 := fun e => hk (e ▸ hx)
    simpa using this
  rw [this, if_neg (by omega)]
  simp [List.findIdx_cons]
theorem left_kv {k v : List UInt8} (hk : (61 : UInt8) ∉ k) (hs : (kvL k v).length ≤ 65536) : leftB ⟨(kvL k v).toArray⟩ 61 = ⟨k.toArray⟩ := by
  have hz : (⟨(kvL k v).toArray⟩ : ByteArray).size = (kvL k v).length := by simp [ByteArray.size]
  have hf : findB ⟨(kvL k v).toArray⟩ 61 = k.length := find_kv hk
  have hl : k.length < (kvL k v).length := by simp [kvL]
  rw [leftB, if_pos (by omega), if_pos (by omega), hf]
  apply bytes_inj
  rw [Lib.extract_data]
  simp [kvL]
theorem right_kv {k v : List UInt8} (hk : (61 : UInt8) ∉ k) (hs : (kvL k v).length ≤ 65536) : rightB ⟨(kvL k v).toArray⟩ 61 = ⟨v.toArray⟩ := by
  have hz : (⟨(kvL k v).toArray⟩ : ByteArray).size = (kvL k v).length := by simp [ByteArray.size]
  have hf : findB ⟨(kvL k v).toArray⟩ 61 = k.length := find_kv hk
  have hl : k.length < (kvL k v).length := by simp [kvL]
  rw [rightB, if_pos ⟨by omega, by omega⟩, hf]
  apply bytes_inj
  rw [Lib.extract_data, List.take_of_length_le]
  · simp [kvL]
  · rw [hz]
    simp [kvL]
    omega
theorem pN_kv {k v : List UInt8} (hk : (61 : UInt8) ∉ k) (hs : (kvL k v).length ≤ 65536) : pN ⟨(kvL k v).toArray⟩ = foldB (trimB ⟨k.toArray⟩) := by rw [pN, left_kv hk hs]
theorem pV_kv {k v : List UInt8} (hk : (61 : UInt8) ∉ k) (hs : (kvL k v).length ≤ 65536) : pV ⟨(kvL k v).toArray⟩ = trimB ⟨v.toArray⟩ := by rw [pV, right_kv hk hs]
theorem attr_kv (q : Ps) {k v : List UInt8} (c : Nat) (hk : (61 : UInt8) ∉ k) (hs : (kvL k v).length ≤ 65536) (hc : atN (foldB (trimB ⟨k.toArray⟩)) = c) (ht : trimB ⟨v.toArray⟩ = ⟨v.toArray⟩) (hv : v.length ≤ 60) : attrP q ⟨(kvL k v).toArray⟩ = doA q c ⟨v.toArray⟩ := by
  unfold attrP
  rw [pV_kv hk hs, pN_kv hk hs, hc, ht, if_pos (by simpa [ByteArray.size] using hv)]
/-- The attributes of a header's text, one part each. -/
def kE : List UInt8 := [32, 69, 120, 112, 105, 114, 101, 115]
def kA : List UInt8 := [32, 77, 97, 120, 45, 65, 103, 101]
def kD : List UInt8 := [32, 68, 111, 109, 97, 105, 110]
def kP : List UInt8 := [32, 80, 97, 116, 104]
def kS : List UInt8 := [32, 83, 101, 99, 117, 114, 101]
def kH : List UInt8 := [32, 72, 116, 116, 112, 79, 110, 108, 121]
def kT : List UInt8 := [32, 83, 97, 109, 101, 83, 105, 116, 101]
def optL (b : Bool) (p : List UInt8) : List (List UInt8) := if b then [p] else []
noncomputable def attrsL (q : Ps) : List (List UInt8) :=
  optL q.he (kvL kE (textV (dateN q.x)).data.toList) ++ (optL q.ha (kvL kA (Lib.itoa q.a)) ++ (optL (!decide (q.d.size = 0)) (kvL kD (domT q.d).data.toList) ++
    (optL q.hp (kvL kP q.p.data.toList) ++ (optL q.sc kS ++ (optL q.ho kH ++ optL (!decide (q.s = 4)) (kvL kT (siteW q.s).data.toList))))))
def flatP (ps : List (List UInt8)) : List UInt8 := ps.flatMap fun p => 59 :: p
theorem flatP_append (a b : List (List UInt8)) : flatP (a ++ b) = flatP a ++ flatP b := by simp [flatP]
theorem data_add (a b : ByteArray) : (a ++ b).data.toList = a.data.toList ++ b.data.toList := by simp
theorem addE_data (t E : ByteArray) (b : Bool) : (addE t b E).data.toList = t.data.toList ++ flatP (optL b (kvL kE E.data.toList)) := by
  cases b
  · simp [addE, optL, flatP]
  · rw [addE, if_pos rfl, data_add, data_add]
    simp [flatP, optL, kvL, kE, tExp]
theorem addA_data (t E : ByteArray) (b : Bool) : (addA t b E).data.toList = t.data.toList ++ flatP (optL b (kvL kA E.data.toList)) := by
  cases b
  · simp [addA, optL, flatP]
  · rw [addA, if_pos rfl, data_add, data_add]
    simp [flatP, optL, kvL, kA, tAge]
theorem addD_data (t d : ByteArray) : (addD t d).data.toList = t.data.toList ++ flatP (optL (!decide (d.size = 0)) (kvL kD (domT d).data.toList)) := by
  by_cases h : d.size = 0
  · rw [addD, if_pos h, decide_eq_true h]
    simp [optL, flatP]
  · rw [addD, if_neg h, decide_eq_false h, data_add, data_add]
    simp [flatP, optL, kvL, kD, tDom]
theorem addP_data (t E : ByteArray) (b : Bool) : (addP t b E).data.toList = t.data.toList ++ flatP (optL b (kvL kP E.data.toList)) := by
  cases b
  · simp [addP, optL, flatP]
  · rw [addP, if_pos rfl, data_add, data_add]
    simp [flatP, optL, kvL, kP, tPath]
theorem addS_data (t : ByteArray) (b : Bool) : (addS t b).data.toList = t.data.toList ++ flatP (optL b kS) := by
  cases b
  · simp [addS, optL, flatP]
  · rw [addS, if_pos rfl, data_add]
    simp [flatP, optL, kS, tSecu]
theorem addH_data (t : ByteArray) (b : Bool) : (addH t b).data.toList = t.data.toList ++ flatP (optL b kH) := by
  cases b
  · simp [addH, optL, flatP]
  · rw [addH, if_pos rfl, data_add]
    simp [flatP, optL, kH, tHttp]
theorem addT_data (t : ByteArray) (s : Int) : (addT t s).data.toList = t.data.toList ++ flatP (optL (!decide (s = 4)) (kvL kT (siteW s).data.toList)) := by
  by_cases h : s = 4
  · rw [addT, if_pos h, decide_eq_true h]
    simp [optL, flatP]
  · rw [addT, if_neg h, decide_eq_false h, data_add, data_add]
    simp [flatP, optL, kvL, kT, tSame]
theorem cat0_data (n v : ByteArray) : (cat0 n v).data.toList = kvL n.data.toList v.data.toList := by
  rw [cat0, data_add, data_add, kvL]
  simp
theorem itoa_data (a : Int) : (⟨(Lib.itoa a).toArray⟩ : ByteArray).data.toList = Lib.itoa a := rfl
theorem setB_data (q : Ps) : (setB q).data.toList = kvL q.n.data.toList q.v.data.toList ++ flatP (attrsL q) := by
  unfold setB attrsL
  rw [addT_data, addH_data, addS_data, addP_data, addD_data, addA_data, addE_data, cat0_data, itoa_data]
  simp only [flatP_append, List.append_assoc]
/-- What stands in a text: plain bytes, no sign that ends a part. -/
def goodP (l : List UInt8) : Prop := ∀ b ∈ l, plainB b = true ∧ b ≠ 59
theorem goodP_append {a b : List UInt8} (ha : goodP a) (hb : goodP b) : goodP (a ++ b) := fun x hx => by
  rcases List.mem_append.1 hx with h | h
  · exact ha x h
  · exact hb x h
theorem goodP_kv {k v : List UInt8} (hk : goodP k) (hv : goodP v) : goodP (kvL k v) := goodP_append hk (fun x hx => by
  rcases List.mem_cons.1 hx with rfl | h
  · decide
  · exact hv x h)
def goodQ (l : List UInt8) : Bool := l.all fun b => plainB b && !(b == 59)
theorem goodP_of {l : List UInt8} (h : goodQ l = true) : goodP l := fun b hb => by
  have := List.all_eq_true.1 h b hb
  rw [Bool.and_eq_true] at this
  exact ⟨this.1, by simpa using this.2⟩
theorem good_text {s : ByteArray} (hs : s.size ≤ 65536) (h : plainS s = true) : goodP s.data.toList := fun b hb => by
  obtain ⟨h1, h2, _⟩ := (plainS_iff hs).1 h
  exact ⟨h1 b hb, fun e => h2 (e ▸ hb)⟩
theorem good_none {l : List UInt8} (h : goodP l) : (59 : UInt8) ∉ l := fun hc => (h 59 hc).2 rfl
theorem plain_le (b : UInt8) (h1 : 32 ≤ b.toNat) (h2 : b.toNat < 127) (h3 : b.toNat ≠ 59) : plainB b = true ∧ b ≠ 59 := by
  refine ⟨?_, fun e => h3 (by rw [e]; rfl)⟩
  have h : ∀ n : Fin 256, 32 ≤ n.val → n.val < 127 → plainB (UInt8.ofNat n.val) = true := by decide +kernel
  have := h ⟨b.toNat, UInt8.toNat_lt b⟩ h1 h2
  rwa [show UInt8.ofNat b.toNat = b from by simp] at this
theorem dec_step (k : Nat) : Lib.decDigits k = if k < 10 then [UInt8.ofNat (48 + k)] else Lib.decDigits (k / 10) ++ [UInt8.ofNat (48 + k % 10)] := by
  rw [Lib.decDigits]
  by_cases h : k < 10
  · rw [dif_pos h, if_pos h]
  · rw [dif_neg h, if_neg h]
theorem dig_num (c : Nat) (h : c < 10) : (UInt8.ofNat (48 + c)).toNat = 48 + c := dig_byte c (by omega)
theorem dig_all (k : Nat) : ∀ b ∈ Lib.decDigits k, 48 ≤ b.toNat ∧ b.toNat ≤ 57 := by
  induction k using Nat.strongRecOn with
  | ind k ih =>
    rw [dec_step]
    by_cases h : k < 10
    · rw [if_pos h]
      intro b hb
      obtain rfl := List.mem_singleton.1 hb
      rw [dig_num k h]
      omega
    · rw [if_neg h]
      intro b hb
      rcases List.mem_append.1 hb with h1 | h1
      · exact ih (k / 10) (by omega) b h1
      · obtain rfl := List.mem_singleton.1 h1
        rw [dig_num _ (Nat.mod_lt _ (by decide))]
        have := Nat.mod_lt k (show 10 > 0 by decide)
        omega
theorem dig_ne (k : Nat) : Lib.decDigits k ≠ [] := by
  rw [dec_step]
  split <;> simp
theorem dig_acc (k : Nat) (hk : k ≤ 1000000000000) : acc (Lib.decDigits k) = k := by
  induction k using Nat.strongRecOn with
  | ind k ih =>
    rw [dec_step]
    by_cases h : k < 10
    · rw [if_pos h, ← List.nil_append [UInt8.ofNat (48 + k)], acc_snoc, dig_num k h]
      show min (10 * acc [] + _) _ = _
      rw [show acc [] = 0 from rfl]
      omega
    · rw [if_neg h, acc_snoc, ih (k / 10) (by omega) (by omega), dig_num _ (Nat.mod_lt _ (by decide))]
      omega
theorem itoa_bytes (a : Int) : ∀ b ∈ Lib.itoa a, (48 ≤ b.toNat ∧ b.toNat ≤ 57) ∨ b = 45 := by
  unfold Lib.itoa
  intro b hb
  split at hb
  · rcases List.mem_cons.1 hb with h | h
    · exact Or.inr h
    · exact Or.inl (dig_all _ b h)
  · exact Or.inl (dig_all _ b hb)
theorem itoa_good (a : Int) : goodP (Lib.itoa a) := fun b hb => by
  rcases itoa_bytes a b hb with h | rfl
  · exact plain_le b (by omega) (by omega) (by omega)
  · exact plain_le 45 (by decide) (by decide) (by decide)
theorem drop_keep {p : UInt8 → Bool} {l : List UInt8} (h : ∀ b, l.head? = some b → p b = false) : l.dropWhile p = l := by
  cases l with
  | nil => rfl
  | cons b l => rw [List.dropWhile_cons, h b rfl]; rfl
theorem trim_list {l : List UInt8} (hs : l.length ≤ 65536) : trimB ⟨l.toArray⟩ = ⟨(rightL (leftL l)).toArray⟩ := by
  rw [trimB, if_pos (by simpa [ByteArray.size] using hs)]
theorem trim_keep {l : List UInt8} (hs : l.length ≤ 65536) (h1 : ∀ b, l.head? = some b → blankB b = false) (h2 : ∀ b, l.getLast? = some b → blankB b = false) : trimB ⟨l.toArray⟩ = ⟨l.toArray⟩ := by
  rw [trim_list hs]
  unfold leftL rightL
  rw [drop_keep h1, drop_keep (l := l.reverse) (by rw [List.head?_reverse]; exact h2), List.reverse_reverse]
theorem trim_solid {l : List UInt8} (hs : l.length ≤ 65536) (h : ∀ b ∈ l, blankB b = false) : trimB ⟨l.toArray⟩ = ⟨l.toArray⟩ :=
  trim_keep hs (fun b hb => h b (List.mem_of_mem_head? hb)) (fun b hb => h b (List.mem_of_getLast? hb))
theorem itoa_solid (a : Int) : ∀ b ∈ Lib.itoa a, blankB b = false := fun b hb => by
  rcases itoa_bytes a b hb with h | rfl
  · unfold blankB
    have h1 : b ≠ 32 := fun e => by rw [e] at h; simp at h
    have h2 : b ≠ 9 := fun e => by rw [e] at h; simp at h
    simp [h1, h2]
  · decide
theorem digit_all {l : List UInt8} (h : ∀ b ∈ l, 48 ≤ b.toNat ∧ b.toNat ≤ 57) : l.all digitB = true := by
  rw [List.all_eq_true]
  intro b hb
  exact (digit_iff b).2 (h b hb)
theorem dec_pos {l : List UInt8} (h : ∀ b ∈ l, 48 ≤ b.toNat ∧ b.toNat ≤ 57) (h0 : l ≠ []) : decOK ⟨l.toArray⟩ = true ∧ decN ⟨l.toArray⟩ = acc l := by
  have hn : negB ⟨l.toArray⟩ = false := by
    unfold negB
    show (l.head? == some 45) = false
    cases l with
    | nil => rfl
    | cons b l =>
      have hb := h b (by simp)
      have : b ≠ 45 := fun e => by rw [e] at hb; simp at hb
      simpa using this
  have hr : restB ⟨l.toArray⟩ = ⟨l.toArray⟩ := by rw [restB, if_neg (by simp [hn])]
  have ha : decAll ⟨l.toArray⟩ = true := by
    unfold decAll
    rw [hr]
    exact digit_all h
  refine ⟨?_, ?_⟩
  · unfold decOK
    rw [ha, hr]
    have : 0 < l.length := List.length_pos_iff.2 h0
    simpa [ByteArray.size] using this
  · unfold decN
    rw [if_pos ha, sgn_false hn, hr, Int.one_mul]
theorem dec_neg {l : List UInt8} (h : ∀ b ∈ l, 48 ≤ b.toNat ∧ b.toNat ≤ 57) (h0 : l ≠ []) : decOK ⟨(45 :: l).toArray⟩ = true ∧ decN ⟨(45 :: l).toArray⟩ = -acc l := by
  have hn : negB ⟨(45 :: l).toArray⟩ = true := rfl
  have hr : restB ⟨(45 :: l).toArray⟩ = ⟨l.toArray⟩ := by
    rw [restB, if_pos hn]
    apply bytes_inj
    rw [Lib.extract_data]
    simp [ByteArray.size]
  have ha : decAll ⟨(45 :: l).toArray⟩ = true := by
    unfold decAll
    rw [hr]
    exact digit_all h
  refine ⟨?_, ?_⟩
  · unfold decOK
    rw [ha, hr]
    have : 0 < l.length := List.length_pos_iff.2 h0
    simpa [ByteArray.size] using this
  · unfold decN
    rw [if_pos ha, sgn_true hn, hr]
    show -1 * acc l = -acc l
    omega
theorem dec_itoa {a : Int} (h1 : -1000000000000 ≤ a) (h2 : a ≤ 1000000000000) : decOK ⟨(Lib.itoa a).toArray⟩ = true ∧ decN ⟨(Lib.itoa a).toArray⟩ = a := by
  unfold Lib.itoa
  by_cases h : a < 0
  · rw [if_pos h]
    obtain ⟨g1, g2⟩ := dec_neg (dig_all a.natAbs) (dig_ne _)
    refine ⟨g1, ?_⟩
    rw [g2, dig_acc _ (by omega)]
    omega
  · rw [if_neg h]
    obtain ⟨g1, g2⟩ := dec_pos (dig_all a.toNat) (dig_ne _)
    refine ⟨g1, ?_⟩
    rw [g2, dig_acc _ (by omega)]
    omega
theorem itoa_short {a : Int} (h1 : -1000000000000 ≤ a) (h2 : a ≤ 1000000000000) : (Lib.itoa a).length ≤ 20 := by
  have hd : ∀ (j k : Nat), k < 10 ^ (j + 1) → (Lib.decDigits k).length ≤ j + 1 := fun j k hk => by
    have := digT_size j k hk
    simpa [digT, ByteArray.size] using this
  unfold Lib.itoa
  by_cases h : a < 0
  · rw [if_pos h]
    have := hd 12 a.natAbs (by omega)
    simp only [List.length_cons]
    omega
  · rw [if_neg h]
    have := hd 12 a.toNat (by omega)
    omega
/-- What a header tells may be told again: it is valid, and its date is a date. -/
def psGood (q : Ps) : Prop := psOK q = true ∧ (q.he = true → ∃ a, okB a = true ∧ q.x = secsN a)
theorem ok_all {q : Ps} (h : psOK q = true) : pairOKB q.n q.v = true ∧ domOKB q.d = true ∧ pathOKB q.p q.hp = true ∧ ageOKB q.a q.ha = true ∧ expOKB q.x q.he = true ∧ siteOKB q.s = true := by
  unfold psOK at h
  simp only [Bool.and_eq_true] at h
  exact h
theorem ok_of {q : Ps} (h : pairOKB q.n q.v = true ∧ domOKB q.d = true ∧ pathOKB q.p q.hp = true ∧ ageOKB q.a q.ha = true ∧ expOKB q.x q.he = true ∧ siteOKB q.s = true) : psOK q = true := by
  unfold psOK
  simp only [Bool.and_eq_true]
  exact h
/-- The date. -/
theorem week_nat2 (a : Dt) : ∃ k : Nat, k < 7 ∧ weekN a = k := ⟨(weekN a).toNat, by unfold weekN; omega, by unfold weekN; omega⟩
theorem read_textV {a : Dt} (h : okB a = true) : dateR (readL (textV a).data.toList) = some a := by
  obtain ⟨k, hk, hw⟩ := week_nat2 a
  rw [textV, if_pos h, hw]
  exact read_text h hk
theorem day_ends : ∀ k : Fin 7, (∀ b ∈ (dnam (k.val : Nat)).data.toList, plainB b = true ∧ b ≠ 59) ∧ ((dnam (k.val : Nat)).data.toList.length = 3) ∧ (∀ b, (dnam (k.val : Nat)).data.toList.head? = some b → blankB b = false) := by
  decide +kernel
theorem mo_ends : ∀ k : Fin 12, (∀ b ∈ (mnam ((k.val + 1 : Nat))).data.toList, plainB b = true ∧ b ≠ 59) ∧ (mnam ((k.val + 1 : Nat))).data.toList.length = 3 := by decide +kernel
theorem two_good : ∀ k : Fin 100, ∀ b ∈ twoL (k.val : Nat), plainB b = true ∧ b ≠ 59 := by decide +kernel
theorem two_ok {n : Int} (h0 : 0 ≤ n) (h1 : n < 100) : goodP (twoL n) ∧ (twoL n).length = 2 := by
  refine ⟨?_, rfl⟩
  have := two_good ⟨n.toNat, by omega⟩
  rwa [show ((n.toNat : Nat) : Int) = n by omega] at this
theorem mdays_le31 (y m : Int) : mdays y m ≤ 31 := by
  unfold mdays
  split
  · omega
  · split
    · split <;> omega
    · omega
theorem text_facts {a : Dt} (h : okB a = true) : goodP (textV a).data.toList ∧ (textV a).data.toList.length ≤ 60 ∧ trimB ⟨(textV a).data.toList.toArray⟩ = ⟨(textV a).data.toList.toArray⟩ := by
  obtain ⟨k, hk, hw⟩ := week_nat2 a
  obtain ⟨⟨h1, h2⟩, ⟨h3, h4⟩, ⟨h5, h6⟩, ⟨h7, h8⟩, ⟨h9, h10⟩, ⟨h11, h12⟩⟩ := (ok_iff a).1 h
  obtain ⟨d1, d2, d3⟩ := day_ends ⟨k, hk⟩
  obtain ⟨m1, m2⟩ := mo_ends ⟨a.m.toNat - 1, by omega⟩
  have em : ((a.m.toNat - 1 + 1 : Nat) : Int) = a.m := by omega
  simp only [em] at m1 m2
  have hd := mdays_le31 a.y a.m
  obtain ⟨t1, l1⟩ := two_ok (n := a.d) (by omega) (by omega)
  obtain ⟨t2, l2⟩ := two_ok (n := a.h) (by omega) (by omega)
  obtain ⟨t3, l3⟩ := two_ok (n := a.n) (by omega) (by omega)
  obtain ⟨t4, l4⟩ := two_ok (n := a.s) (by omega) (by omega)
  have hy := itoa_short (a := a.y) (by omega) (by omega)
  have gy := itoa_good a.y
  have e : (textV a).data.toList = txtL (dnam (k : Nat)).data.toList (mnam a.m).data.toList a.y a.d a.h a.n a.s := by rw [textV, if_pos h, hw]
  have g1 : goodP (txtL (dnam (k : Nat)).data.toList (mnam a.m).data.toList a.y a.d a.h a.n a.s) := by
    unfold txtL
    exact goodP_append (goodP_append (goodP_append (goodP_append (goodP_append (goodP_append (goodP_append (goodP_append (goodP_append (goodP_append (goodP_append (goodP_append (goodP_append d1 (goodP_of (by decide))) t1) (goodP_of (by decide))) m1) (goodP_of (by decide))) gy) (goodP_of (by decide))) t2) (goodP_of (by decide))) t3) (goodP_of (by decide))) t4) (goodP_of (by decide))
  have g2 : (txtL (dnam (k : Nat)).data.toList (mnam a.m).data.toList a.y a.d a.h a.n a.s).length ≤ 60 := by
    unfold txtL
    simp only [List.length_append, d2, m2, l1, l2, l3, l4, List.length_cons, List.length_nil]
    omega
  rw [e]
  refine ⟨g1, g2, trim_keep (by omega) ?_ ?_⟩
  · intro b hb
    refine d3 b ?_
    unfold txtL at hb
    cases hc : (dnam (k : Nat)).data.toList with
    | nil => rw [hc] at d2; simp at d2
    | cons x l =>
      rw [hc] at hb
      simpa using hb
  · intro b hb
    unfold txtL at hb
    rw [List.getLast?_append] at hb
    have : b = 84 := by simpa using hb.symm
    subst this
    decide
theorem dateN_of {x : Int} {a : Dt} (h : okB a = true) (hx : x = secsN a) : dateN x = a := dateN_is (hx ▸ IsDate.of_ok h)
/-- What each attribute's part does. -/
theorem step_E (r : Ps) {x : Int} (h : ∃ a, okB a = true ∧ x = secsN a) : attrP r ⟨(kvL kE (textV (dateN x)).data.toList).toArray⟩ = { r with he := true, x := x } := by
  obtain ⟨a, ha, hx⟩ := h
  rw [dateN_of ha hx]
  obtain ⟨_, g2, g3⟩ := text_facts ha
  rw [attr_kv r 1 (by decide) (by simp only [kvL, kE, List.length_append, List.length_cons, List.length_nil]; omega) (by decide +kernel) g3 g2]
  unfold doA
  rw [if_pos rfl, of_data]
  show (match dateR (readL (textV a).data.toList) with | some d => { r with he := true, x := secsN d } | none => r) = _
  rw [read_textV ha, hx]
theorem step_A (r : Ps) {a : Int} (h1 : -1000000000000 ≤ a) (h2 : a ≤ 1000000000000) : attrP r ⟨(kvL kA (Lib.itoa a)).toArray⟩ = { r with ha := true, a := a } := by
  have hl := itoa_short h1 h2
  obtain ⟨g1, g2⟩ := dec_itoa h1 h2
  rw [attr_kv r 2 (by decide) (by simp only [kvL, kA, List.length_append, List.length_cons, List.length_nil]; omega) (by decide +kernel) (trim_solid (by omega) (itoa_solid a)) (by omega)]
  unfold doA
  rw [if_neg (by decide), if_pos rfl, if_pos g1, g2]
theorem step_P (r : Ps) {p : ByteArray} (h : pathOKB p true = true) : attrP r ⟨(kvL kP p.data.toList).toArray⟩ = { r with hp := true, p := p } := by
  unfold pathOKB at h
  rw [if_pos rfl, Bool.and_eq_true, Bool.and_eq_true, decide_eq_true_eq] at h
  obtain ⟨h1, h2, h3⟩ := h
  obtain ⟨_, _, h4⟩ := (plainS_iff (by omega)).1 h3
  have hl : p.data.toList.length = p.size := by simp
  rw [attr_kv r 4 (by decide) (by simp only [kvL, kP, List.length_append, List.length_cons, List.length_nil]; omega) (by decide +kernel) (by rw [of_data]; exact h4) (by omega), of_data]
  unfold doA
  rw [if_neg (by decide), if_neg (by decide), if_neg (by decide), if_pos rfl, h2, if_pos rfl]
theorem no_value {k : List UInt8} (hk : (61 : UInt8) ∉ k) (hs : k.length ≤ 65536) : leftB ⟨k.toArray⟩ 61 = ⟨k.toArray⟩ ∧ rightB ⟨k.toArray⟩ 61 = ⟨#[]⟩ := by
  have hz : (⟨k.toArray⟩ : ByteArray).size = k.length := by simp [ByteArray.size]
  have hf : findB ⟨k.toArray⟩ 61 = k.length := by
    unfold findB
    show k.findIdx (· == 61) = _
    rw [List.findIdx_eq_length]
    intro x hx
    have : x ≠ 61 := fun e => hk (e ▸ hx)
    simpa using this
  exact ⟨by rw [leftB, if_pos (by omega), if_neg (by omega)], by rw [rightB, if_neg (by omega)]⟩
theorem trim_none : trimB ⟨#[]⟩ = ⟨#[]⟩ := by decide +kernel
theorem attr_no (q : Ps) {k : List UInt8} (c : Nat) (hk : (61 : UInt8) ∉ k) (hs : k.length ≤ 65536) (hc : atN (foldB (trimB ⟨k.toArray⟩)) = c) : attrP q ⟨k.toArray⟩ = doA q c ⟨#[]⟩ := by
  obtain ⟨h1, h2⟩ := no_value hk hs
  unfold attrP
  rw [pV, pN, h1, h2, trim_none, hc, if_pos (by decide)]
theorem step_S (r : Ps) : attrP r ⟨kS.toArray⟩ = { r with sc := true } := by
  rw [attr_no r 5 (by decide) (by decide) (by decide +kernel)]
  rfl
theorem step_H (r : Ps) : attrP r ⟨kH.toArray⟩ = { r with ho := true } := by
  rw [attr_no r 6 (by decide) (by decide) (by decide +kernel)]
  rfl
theorem site_facts : ∀ s : Fin 3, siteN (foldB (siteW ((s.val + 1 : Nat) : Int))) = ((s.val + 1 : Nat) : Int) ∧ trimB (siteW ((s.val + 1 : Nat) : Int)) = siteW ((s.val + 1 : Nat) : Int) ∧ (siteW ((s.val + 1 : Nat) : Int)).size ≤ 10 := by decide +kernel
theorem step_T (r : Ps) {s : Int} (h : siteOKB s = true) (h4 : s ≠ 4) : attrP r ⟨(kvL kT (siteW s).data.toList).toArray⟩ = { r with s := s } := by
  unfold siteOKB at h
  rw [Bool.and_eq_true, decide_eq_true_eq, decide_eq_true_eq] at h
  obtain ⟨f1, f2, f3⟩ := site_facts ⟨s.toNat - 1, by omega⟩
  have es : ((s.toNat - 1 + 1 : Nat) : Int) = s := by omega
  simp only [es] at f1 f2 f3
  have hl : (siteW s).data.toList.length = (siteW s).size := by simp
  rw [attr_kv r 7 (by decide) (by simp only [kvL, kT, List.length_append, List.length_cons, List.length_nil]; omega) (by decide +kernel) (by rw [of_data]; exact f2) (by omega), of_data]
  unfold doA
  rw [if_neg (by decide), if_neg (by decide), if_neg (by decide), if_neg (by decide), if_neg (by decide), if_neg (by decide), if_pos rfl, f1]
/-- The domain: a point ahead is told once more than it counts. -/
theorem dom_facts {d : ByteArray} (h : domOKB d = true) : d.size ≤ 60 ∧ plainS d = true ∧ foldB d = d ∧ (dotB d = true → d.size ≤ 59) := by
  unfold domOKB at h
  rw [Bool.and_eq_true, Bool.and_eq_true, decide_eq_true_eq] at h
  obtain ⟨h1, h2, h3⟩ := h
  refine ⟨by split at h1 <;> omega, h2, seq_of h3, fun hd => ?_⟩
  rw [if_pos hd] at h1
  omega
theorem domT_size {d : ByteArray} (h : domOKB d = true) : (domT d).size ≤ 60 := by
  obtain ⟨h1, _, _, h4⟩ := dom_facts h
  unfold domT
  split
  · rename_i hd
    have := h4 hd
    have e : ((⟨#[46]⟩ : ByteArray) ++ d).size = 1 + d.size := by rw [ByteArray.size_append]; rfl
    omega
  · exact h1
theorem last_cons {b : UInt8} {l : List UInt8} (h : l ≠ []) : (b :: l).getLast? = l.getLast? := by
  cases l with
  | nil => exact absurd rfl h
  | cons x l => rw [List.getLast?_cons_cons]
theorem trim_ends {l : List UInt8} (hs : l.length ≤ 65536) (h : trimB ⟨l.toArray⟩ = ⟨l.toArray⟩) : (∀ b, l.head? = some b → blankB b = false) ∧ (∀ b, l.getLast? = some b → blankB b = false) := by
  rw [trim_list hs] at h
  have e : rightL (leftL l) = l := by
    have := congrArg (fun s : ByteArray => s.data.toList) h
    simpa using this
  have e2 : leftL (rightL l) = l := by rw [left_right]; exact e
  have hr : rightL l = l := by
    have l1 : (rightL (leftL l)).length ≤ (leftL l).length := by unfold rightL; rw [List.length_reverse]; refine Nat.le_trans (drop_le _ _) ?_; simp
    have l2 : (leftL l).length ≤ l.length := drop_le _ _
    have l3 : (leftL (rightL l)).length ≤ (rightL l).length := drop_le _ _
    have l4 : (rightL l).length ≤ l.length := by unfold rightL; rw [List.length_reverse]; refine Nat.le_trans (drop_le _ _) ?_; simp
    have ll : (leftL l).length = l.length := by rw [e] at l1; omega
    have el : leftL l = l := (List.dropWhile_suffix blankB (l := l)).eq_of_length ll
    rw [el] at e
    exact e
  have hl : leftL l = l := by rw [hr] at e2; exact e2
  refine ⟨fun b hb => ?_, fun b hb => ?_⟩
  · cases l with
    | nil => cases hb
    | cons x l =>
      injection hb with hb
      subst hb
      cases hx : blankB x with
      | false => rfl
      | true =>
        exfalso
        unfold leftL at hl
        rw [List.dropWhile_cons, hx] at hl
        have := drop_le blankB l
        have h2 := congrArg List.length hl
        simp at h2
        omega
  · have hb2 : l.reverse.head? = some b := by rw [List.head?_reverse]; exact hb
    unfold rightL at hr
    have hr2 : l.reverse.dropWhile blankB = l.reverse := by
      have := congrArg List.reverse hr
      simpa using this
    cases hc : l.reverse with
    | nil => rw [hc] at hb2; cases hb2
    | cons x m =>
      rw [hc] at hb2 hr2
      injection hb2 with hb2
      subst hb2
      cases hx : blankB x with
      | false => rfl
      | true =>
        exfalso
        rw [List.dropWhile_cons, hx] at hr2
        have := drop_le blankB m
        have h2 := congrArg List.length hr2
        simp at h2
        omega
theorem dot_cons {d : ByteArray} (h : dotB d = true) : ∃ l, d.data.toList = 46 :: l := by
  unfold dotB at h
  cases hc : d.data.toList with
  | nil => rw [hc] at h; simp at h
  | cons x l =>
    rw [hc] at h
    have : x = 46 := by simpa using h
    exact ⟨l, by rw [this]⟩
theorem domT_data (d : ByteArray) : (domT d).data.toList = if dotB d then 46 :: d.data.toList else d.data.toList := by
  unfold domT
  cases dotB d with
  | true => rw [if_pos rfl, if_pos rfl, data_add]; rfl
  | false => rw [if_neg (by simp), if_neg (by simp)]
theorem domT_trim {d : ByteArray} (h : domOKB d = true) : trimB (domT d) = domT d := by
  have hz := domT_size h
  obtain ⟨h1, h2, _, _⟩ := dom_facts h
  obtain ⟨_, _, h3⟩ := (plainS_iff (by omega)).1 h2
  cases hd : dotB d with
  | false => rw [domT, if_neg (by simp [hd])]; exact h3
  | true =>
    have hl : (domT d).data.toList.length = (domT d).size := by simp
    have hdl : d.data.toList.length = d.size := by simp
    have he := trim_ends (l := d.data.toList) (by omega) (by rw [of_data]; exact h3)
    have hk := trim_keep (l := (domT d).data.toList) (by omega) (by
      intro b hb
      rw [domT_data, if_pos hd] at hb
      injection hb with hb
      subst hb
      decide) (by
      intro b hb
      obtain ⟨l, hl⟩ := dot_cons hd
      rw [domT_data, if_pos hd, last_cons (by rw [hl]; simp)] at hb
      exact he.2 b hb)
    rw [of_data] at hk
    exact hk
theorem undot_dom (d : ByteArray) : undotB (domT d) = d := by
  cases hd : dotB d with
  | false =>
    have e : domT d = d := by rw [domT, if_neg (by simp [hd])]
    rw [e, undotB, if_neg (by simp [hd])]
  | true =>
    have hd2 : dotB (domT d) = true := by
      unfold dotB
      rw [domT_data, if_pos hd]
      rfl
    rw [undotB, if_pos hd2]
    apply bytes_inj
    have hz : (domT d).size = (domT d).data.toList.length := by simp
    rw [Lib.extract_data, hz, domT_data, if_pos hd]
    simp
    rw [List.take_of_length_le]
    simp
theorem step_D (r : Ps) {d : ByteArray} (h : domOKB d = true) : attrP r ⟨(kvL kD (domT d).data.toList).toArray⟩ = { r with d := d } := by
  have hz := domT_size h
  obtain ⟨h1, h2, h3, _⟩ := dom_facts h
  obtain ⟨_, _, h4⟩ := (plainS_iff (by omega)).1 h2
  have hl : (domT d).data.toList.length = (domT d).size := by simp
  rw [attr_kv r 3 (by decide) (by simp only [kvL, kD, List.length_append, List.length_cons, List.length_nil]; omega) (by decide +kernel) (by rw [of_data]; exact domT_trim h) (by omega), of_data]
  unfold doA
  rw [if_neg (by decide), if_neg (by decide), if_pos rfl, undot_dom, h3, h4]
theorem foldP_append (q : Ps) (a b : List (List UInt8)) : foldP q (a ++ b) = foldP (foldP q a) b := by unfold foldP; rw [List.foldl_append]
theorem foldP_opt (q : Ps) (b : Bool) (p : List UInt8) : foldP q (optL b p) = if b then attrP q ⟨p.toArray⟩ else q := by cases b <;> rfl
theorem empty_of {p : ByteArray} (h : p.size = 0) : p = ⟨#[]⟩ := bytes_inj (by
  have : p.data.toList = [] := List.eq_nil_of_length_eq_zero (by simpa using h)
  rw [this])
/-- All parts together. -/
theorem fold_attrs {q : Ps} (h : psGood q) : foldP (ps0 q.n q.v) (attrsL q) = q := by
  obtain ⟨hok, hx⟩ := h
  obtain ⟨_, h2, h3, h4, h5, h6⟩ := ok_all hok
  obtain ⟨n, v, d, p, he, ha, hp, x, a, s, sc, ho⟩ := q
  simp only at h2 h3 h4 h5 h6 hx
  unfold attrsL
  simp only [foldP_append]
  have e1 : foldP (ps0 n v) (optL he (kvL kE (textV (dateN x)).data.toList)) = ⟨n, v, ⟨#[]⟩, ⟨#[]⟩, he, false, false, x, 0, 4, false, false⟩ := by
    rw [foldP_opt]
    cases he with
    | true => rw [if_pos rfl, step_E _ (hx rfl)]; rfl
    | false =>
      have : x = 0 := by
        unfold expOKB at h5
        rw [Bool.and_eq_true] at h5
        simpa using h5.2
      rw [this]
      rfl
  have e2 : foldP ⟨n, v, ⟨#[]⟩, ⟨#[]⟩, he, false, false, x, 0, 4, false, false⟩ (optL ha (kvL kA (Lib.itoa a))) = ⟨n, v, ⟨#[]⟩, ⟨#[]⟩, he, ha, false, x, a, 4, false, false⟩ := by
    rw [foldP_opt]
    unfold ageOKB at h4
    rw [Bool.and_eq_true, Bool.and_eq_true, decide_eq_true_eq, decide_eq_true_eq] at h4
    cases ha with
    | true => rw [if_pos rfl, step_A _ h4.1 h4.2.1]
    | false =>
      have : a = 0 := by simpa using h4.2.2
      rw [this]
      rfl
  have e3 : foldP ⟨n, v, ⟨#[]⟩, ⟨#[]⟩, he, ha, false, x, a, 4, false, false⟩ (optL (!decide (d.size = 0)) (kvL kD (domT d).data.toList)) = ⟨n, v, d, ⟨#[]⟩, he, ha, false, x, a, 4, false, false⟩ := by
    rw [foldP_opt]
    by_cases h0 : d.size = 0
    · rw [decide_eq_true h0, empty_of h0]
      rfl
    · rw [decide_eq_false h0, if_pos (by rfl), step_D _ h2]
  have e4 : foldP ⟨n, v, d, ⟨#[]⟩, he, ha, false, x, a, 4, false, false⟩ (optL hp (kvL kP p.data.toList)) = ⟨n, v, d, p, he, ha, hp, x, a, 4, false, false⟩ := by
    rw [foldP_opt]
    cases hp with
    | true => rw [if_pos rfl, step_P _ h3]
    | false =>
      have : p.size = 0 := by simpa [pathOKB] using h3
      rw [empty_of this]
      rfl
  have e5 : foldP ⟨n, v, d, p, he, ha, hp, x, a, 4, false, false⟩ (optL sc kS) = ⟨n, v, d, p, he, ha, hp, x, a, 4, sc, false⟩ := by
    rw [foldP_opt]
    cases sc with
    | true => rw [if_pos rfl, step_S]
    | false => rfl
  have e6 : foldP ⟨n, v, d, p, he, ha, hp, x, a, 4, sc, false⟩ (optL ho kH) = ⟨n, v, d, p, he, ha, hp, x, a, 4, sc, ho⟩ := by
    rw [foldP_opt]
    cases ho with
    | true => rw [if_pos rfl, step_H]
    | false => rfl
  have e7 : foldP ⟨n, v, d, p, he, ha, hp, x, a, 4, sc, ho⟩ (optL (!decide (s = 4)) (kvL kT (siteW s).data.toList)) = ⟨n, v, d, p, he, ha, hp, x, a, s, sc, ho⟩ := by
    rw [foldP_opt]
    by_cases h0 : s = 4
    · rw [decide_eq_true h0, h0]
      rfl
    · rw [decide_eq_false h0, if_pos (by rfl), step_T _ h6 h0]
  rw [e1, e2, e3, e4, e5, e6, e7]
end Go.Proofs.YtpdonghdnaehhaaGreatDoor

namespace Go.Proofs.YtpdonghdnaehhaaGreatDoor
open Go.WideShapes

theorem size_data (s : ByteArray) : s.data.toList.length = s.size := by simp
theorem size_list (l : List UInt8) : (⟨l.toArray⟩ : ByteArray).size = l.length := by simp [ByteArray.size]
/-- A text that begins with a name and a value and goes on with parts. -/
structure Told (T n v : ByteArray) (ps : List (List UInt8)) : Prop where
  data : T.data.toList = kvL n.data.toList v.data.toList ++ flatP ps
  size : T.size ≤ 65536
  pair : pairOKB n v = true
  good : ∀ p ∈ ps, goodP p
theorem pair_facts {n v : ByteArray} (h : pairOKB n v = true) : 0 < n.size + v.size ∧ n.size + v.size ≤ 100 ∧ plainS n = true ∧ plainS v = true ∧ (61 : UInt8) ∉ n.data.toList := by
  unfold pairOKB at h
  simp only [Bool.and_eq_true, decide_eq_true_eq] at h
  obtain ⟨h1, h2, h3, h4, h5⟩ := h
  exact ⟨h1, h2, h3, h4, none_iff.1 h5⟩
theorem goodP_flat {ps : List (List UInt8)} (h : ∀ p ∈ ps, goodP p) : ∀ b ∈ flatP ps, plainB b = true := by
  intro b hb
  unfold flatP at hb
  obtain ⟨p, hp, hb⟩ := List.mem_flatMap.1 hb
  rcases List.mem_cons.1 hb with rfl | hb
  · decide
  · exact (h p hp b hb).1
theorem Told.parts {T n v : ByteArray} {ps : List (List UInt8)} (h : Told T n v ps) : partsL T = kvL n.data.toList v.data.toList :: ps := by
  obtain ⟨_, h2, h3, h4, _⟩ := pair_facts h.pair
  have g1 := good_text (by omega) h3
  have g2 := good_text (by omega) h4
  rw [partsL, h.data]
  exact cut_flat ps _ (good_none (goodP_kv g1 g2)) (fun p hp => good_none (h.good p hp))
theorem Told.head {T n v : ByteArray} {ps : List (List UInt8)} (h : Told T n v ps) : hN T = n ∧ hV T = v := by
  obtain ⟨_, h2, h3, h4, h5⟩ := pair_facts h.pair
  obtain ⟨_, _, t1⟩ := (plainS_iff (by omega)).1 h3
  obtain ⟨_, _, t2⟩ := (plainS_iff (by omega)).1 h4
  have e : headT T = ⟨(kvL n.data.toList v.data.toList).toArray⟩ := by rw [headT, h.parts]; rfl
  have hl : (kvL n.data.toList v.data.toList).length ≤ 65536 := by
    unfold kvL
    rw [List.length_append, List.length_cons, size_data, size_data]
    omega
  have hc : cutB ⟨(kvL n.data.toList v.data.toList).toArray⟩ 61 = true := by
    unfold cutB
    rw [size_list, show findB ⟨(kvL n.data.toList v.data.toList).toArray⟩ 61 = n.data.toList.length from find_kv h5]
    refine decide_eq_true ⟨hl, ?_⟩
    simp [kvL]
  refine ⟨?_, ?_⟩
  · rw [hN, e, nB, if_pos hc, left_kv h5 hl, of_data, t1]
  · rw [hV, e, vB, if_pos hc, right_kv h5 hl, of_data, t2]
theorem Told.code {T n v : ByteArray} {ps : List (List UInt8)} (h : Told T n v ps) : parC T = 0 := by
  obtain ⟨h1, h2, h3, h4, _⟩ := pair_facts h.pair
  obtain ⟨e1, e2⟩ := h.head
  have g1 := good_text (by omega) h3
  have g2 := good_text (by omega) h4
  have hc : controlOK T = false := by
    unfold controlOK
    have : allB T plainB = true := by
      rw [all_iff, h.data]
      intro b hb
      rcases List.mem_append.1 hb with hb | hb
      · exact (goodP_kv g1 g2 b hb).1
      · exact goodP_flat h.good b hb
    rw [this]
    simp
  unfold parC
  rw [if_neg (by have := h.size; omega), hc, e1, e2, if_neg (by simp), if_neg (by omega), if_neg (by omega)]
theorem Told.read {T n v : ByteArray} {ps : List (List UInt8)} (h : Told T n v ps) : parP T = foldP (ps0 n v) ps := by
  obtain ⟨e1, e2⟩ := h.head
  rw [parP, if_pos h.code, e1, e2, h.parts]
  rfl
theorem opt_mem {b : Bool} {p x : List UInt8} (h : x ∈ optL b p) : x = p ∧ b = true := by
  cases b with
  | false => cases h
  | true => exact ⟨List.mem_singleton.1 h, rfl⟩
theorem site_good : ∀ s : Fin 5, goodQ (siteW (s.val : Nat)).data.toList = true := by decide +kernel
theorem attrs_good {q : Ps} (h : psGood q) : ∀ p ∈ attrsL q, goodP p := by
  obtain ⟨hok, hx⟩ := h
  obtain ⟨_, h2, h3, h4, h5, h6⟩ := ok_all hok
  intro p hp
  unfold attrsL at hp
  simp only [List.mem_append] at hp
  rcases hp with hp | hp | hp | hp | hp | hp | hp
  · obtain ⟨rfl, hb⟩ := opt_mem hp
    obtain ⟨a, ha, he⟩ := hx hb
    rw [dateN_of ha he]
    exact goodP_kv (goodP_of (by decide)) (text_facts ha).1
  · obtain ⟨rfl, hb⟩ := opt_mem hp
    exact goodP_kv (goodP_of (by decide)) (itoa_good _)
  · obtain ⟨rfl, hb⟩ := opt_mem hp
    obtain ⟨g1, g2, _, _⟩ := dom_facts h2
    have hg := good_text (by omega) g2
    refine goodP_kv (goodP_of (by decide)) ?_
    rw [domT_data]
    split
    · exact goodP_append (a := [46]) (goodP_of (by decide)) hg
    · exact hg
  · obtain ⟨rfl, hb⟩ := opt_mem hp
    unfold pathOKB at h3
    rw [if_pos hb, Bool.and_eq_true, Bool.and_eq_true, decide_eq_true_eq] at h3
    exact goodP_kv (goodP_of (by decide)) (good_text (by omega) h3.2.2)
  · obtain ⟨rfl, _⟩ := opt_mem hp
    exact goodP_of (by decide)
  · obtain ⟨rfl, _⟩ := opt_mem hp
    exact goodP_of (by decide)
  · obtain ⟨rfl, hb⟩ := opt_mem hp
    unfold siteOKB at h6
    rw [Bool.and_eq_true, decide_eq_true_eq, decide_eq_true_eq] at h6
    have := site_good ⟨q.s.toNat, by omega⟩
    simp only [show ((q.s.toNat : Nat) : Int) = q.s by omega] at this
    exact goodP_kv (goodP_of (by decide)) (goodP_of this)
/-- A valid header's text is read back. -/
theorem told_set {q : Ps} (h : psGood q) (hs : (setB q).size ≤ 65536) : Told (setB q) q.n q.v (attrsL q) := ⟨setB_data q, hs, (ok_all h.1).1, attrs_good h⟩
theorem back_set {q : Ps} (h : psGood q) (hs : (setB q).size ≤ 65536) : parC (setB q) = 0 ∧ parP (setB q) = q := by
  have ht := told_set h hs
  exact ⟨ht.code, by rw [ht.read]; exact fold_attrs h⟩
/-- Four attributes more. -/
def moreL : List (List UInt8) := [[32, 80, 97, 116, 104, 61, 47, 122, 122], [32, 83, 69, 67, 85, 82, 69], [32, 115, 97, 109, 101, 115, 105, 116, 101, 61, 76, 65, 88], [32, 109, 97, 120, 45, 97, 103, 101, 61, 48, 48, 55]]
def moreT : ByteArray := ⟨(flatP moreL).toArray⟩
def moreQ (q : Ps) : Ps := { q with hp := true, p := ⟨#[47, 122, 122]⟩, sc := true, s := 2, ha := true, a := 7 }
theorem more_one (q : Ps) : attrP q ⟨#[32, 80, 97, 116, 104, 61, 47, 122, 122]⟩ = { q with hp := true, p := ⟨#[47, 122, 122]⟩ } := by
  have h1 : (pV ⟨#[32, 80, 97, 116, 104, 61, 47, 122, 122]⟩) = ⟨#[47, 122, 122]⟩ := by decide +kernel
  have h2 : atN (pN ⟨#[32, 80, 97, 116, 104, 61, 47, 122, 122]⟩) = 4 := by decide +kernel
  unfold attrP
  rw [h1, h2]
  rfl
theorem more_two (q : Ps) : attrP q ⟨#[32, 83, 69, 67, 85, 82, 69]⟩ = { q with sc := true } := by
  have h1 : (pV ⟨#[32, 83, 69, 67, 85, 82, 69]⟩) = ⟨#[]⟩ := by decide +kernel
  have h2 : atN (pN ⟨#[32, 83, 69, 67, 85, 82, 69]⟩) = 5 := by decide +kernel
  unfold attrP
  rw [h1, h2]
  rfl
theorem more_three (q : Ps) : attrP q ⟨#[32, 115, 97, 109, 101, 115, 105, 116, 101, 61, 76, 65, 88]⟩ = { q with s := 2 } := by
  have h1 : (pV ⟨#[32, 115, 97, 109, 101, 115, 105, 116, 101, 61, 76, 65, 88]⟩) = ⟨#[76, 65, 88]⟩ := by decide +kernel
  have h2 : atN (pN ⟨#[32, 115, 97, 109, 101, 115, 105, 116, 101, 61, 76, 65, 88]⟩) = 7 := by decide +kernel
  have h3 : siteN (foldB ⟨#[76, 65, 88]⟩) = 2 := by decide +kernel
  unfold attrP
  rw [h1, h2, if_pos (by decide)]
  unfold doA
  rw [if_neg (by decide), if_neg (by decide), if_neg (by decide), if_neg (by decide), if_neg (by decide), if_neg (by decide), if_pos rfl, h3]
theorem more_four (q : Ps) : attrP q ⟨#[32, 109, 97, 120, 45, 97, 103, 101, 61, 48, 48, 55]⟩ = { q with ha := true, a := 7 } := by
  have h1 : (pV ⟨#[32, 109, 97, 120, 45, 97, 103, 101, 61, 48, 48, 55]⟩) = ⟨#[48, 48, 55]⟩ := by decide +kernel
  have h2 : atN (pN ⟨#[32, 109, 97, 120, 45, 97, 103, 101, 61, 48, 48, 55]⟩) = 2 := by decide +kernel
  have h3 : decOK ⟨#[48, 48, 55]⟩ = true := by decide +kernel
  have h4 : decN ⟨#[48, 48, 55]⟩ = 7 := by decide +kernel
  unfold attrP
  rw [h1, h2, if_pos (by decide)]
  unfold doA
  rw [if_neg (by decide), if_pos rfl, if_pos h3, h4]
theorem back_more {q : Ps} (h : psGood q) (hs : (setB q ++ moreT).size ≤ 65536) : parC (setB q ++ moreT) = 0 ∧ parP (setB q ++ moreT) = moreQ q := by
  have ht : Told (setB q ++ moreT) q.n q.v (attrsL q ++ moreL) := by
    refine ⟨?_, hs, (ok_all h.1).1, ?_⟩
    · rw [data_add, setB_data, flatP_append, List.append_assoc]
      rfl
    · intro p hp
      rcases List.mem_append.1 hp with hp | hp
      · exact attrs_good h p hp
      · have : ∀ p ∈ moreL, goodQ p = true := by decide
        exact goodP_of (this p hp)
  refine ⟨ht.code, ?_⟩
  rw [ht.read, foldP_append, fold_attrs h]
  show attrP (attrP (attrP (attrP q ⟨#[32, 80, 97, 116, 104, 61, 47, 122, 122]⟩) ⟨#[32, 83, 69, 67, 85, 82, 69]⟩) ⟨#[32, 115, 97, 109, 101, 115, 105, 116, 101, 61, 76, 65, 88]⟩) ⟨#[32, 109, 97, 120, 45, 97, 103, 101, 61, 48, 48, 55]⟩ = _
  rw [more_one, more_two, more_three, more_four]
  rfl
/-- What is read is valid. -/
theorem trim_mem {s : ByteArray} {b : UInt8} (h : b ∈ (trimB s).data.toList) : b ∈ s.data.toList := by
  unfold trimB at h
  split at h
  · have h1 : b ∈ rightL (leftL s.data.toList) := by simpa using h
    unfold rightL at h1
    have h2 : b ∈ (leftL s.data.toList).reverse := (List.dropWhile_suffix blankB).subset (List.mem_reverse.1 h1)
    exact (List.dropWhile_suffix blankB).subset (List.mem_reverse.1 h2)
  · cases h
theorem bk_trim_le (s : ByteArray) : (trimB s).size ≤ s.size := by
  unfold trimB
  split
  · exact trim_size s
  · exact Nat.zero_le _
theorem trim_idem {s : ByteArray} (hs : s.size ≤ 65536) : trimB (trimB s) = trimB s := by
  have h1 := bk_trim_le s
  rw [trimB, if_pos (by omega)]
  have e : (trimB s).data.toList = rightL (leftL s.data.toList) := by rw [trimB, if_pos hs]
  rw [e]
  have e2 : leftL (rightL (leftL s.data.toList)) = rightL (leftL s.data.toList) := by
    rw [left_right]
    congr 1
    unfold leftL
    exact drop_keep (fun b hb => by
      have := List.head?_dropWhile_not blankB s.data.toList
      rw [hb] at this
      simpa using this)
  rw [e2]
  have e3 : ∀ l : List UInt8, rightL (rightL l) = rightL l := fun l => by
    unfold rightL
    rw [List.reverse_reverse, drop_keep (l := l.reverse.dropWhile blankB) (fun b hb => by
      have := List.head?_dropWhile_not blankB l.reverse
      rw [hb] at this
      simpa using this)]
  rw [e3, trimB, if_pos hs]
theorem trim_full {s : ByteArray} (hs : s.size ≤ 65536) (h : (trimB s).size = s.size) : trimB s = s := by
  apply bytes_inj
  have e : (trimB s).data.toList = rightL (leftL s.data.toList) := by rw [trimB, if_pos hs]
  have hl : (rightL (leftL s.data.toList)).length = s.data.toList.length := by rw [← e, size_data, size_data, h]
  rw [e]
  have l1 : (rightL (leftL s.data.toList)).length ≤ (leftL s.data.toList).length := by unfold rightL; rw [List.length_reverse]; refine Nat.le_trans (drop_le _ _) ?_; simp
  have l2 : (leftL s.data.toList).length ≤ s.data.toList.length := drop_le _ _
  have el : leftL s.data.toList = s.data.toList := (List.dropWhile_suffix blankB).eq_of_length (by show (leftL s.data.toList).length = _; omega)
  rw [el] at hl ⊢
  unfold rightL at hl ⊢
  have er : s.data.toList.reverse.dropWhile blankB = s.data.toList.reverse := (List.dropWhile_suffix blankB).eq_of_length (by rw [List.length_reverse] at hl ⊢; omega)
  rw [er, List.reverse_reverse]
theorem plain_trim {s : ByteArray} (hs : s.size ≤ 65536) (h : goodP s.data.toList) : plainS (trimB s) = true := by
  have h1 := bk_trim_le s
  refine (plainS_iff (by omega)).2 ⟨fun b hb => (h b (trim_mem hb)).1, fun hc => (h 59 (trim_mem hc)).2 rfl, trim_idem hs⟩
theorem low_good : ∀ n : Fin 256, plainB (UInt8.ofNat n.val) = true → UInt8.ofNat n.val ≠ 59 → plainB (lowB (UInt8.ofNat n.val)) = true ∧ lowB (UInt8.ofNat n.val) ≠ 59 := by decide +kernel
theorem low_twice : ∀ n : Fin 256, lowB (lowB (UInt8.ofNat n.val)) = lowB (UInt8.ofNat n.val) := by decide +kernel
theorem of_byte (b : UInt8) : UInt8.ofNat b.toNat = b := by simp
theorem fold_list {s : ByteArray} (hs : s.size ≤ 65536) : (foldB s).data.toList = s.data.toList.map lowB := by rw [foldB, if_pos hs]; rfl
theorem bk_fold_size {s : ByteArray} (hs : s.size ≤ 65536) : (foldB s).size = s.size := by rw [← size_data, fold_list hs, List.length_map, size_data]
theorem fold_good {s : ByteArray} (hs : s.size ≤ 65536) (h : goodP s.data.toList) : goodP (foldB s).data.toList := by
  rw [fold_list hs]
  intro b hb
  obtain ⟨c, hc, rfl⟩ := List.mem_map.1 hb
  have := low_good ⟨c.toNat, UInt8.toNat_lt c⟩
  simp only [of_byte] at this
  exact this (h c hc).1 (h c hc).2
theorem fold_same {s : ByteArray} (hs : s.size ≤ 65536) (h : ∀ b ∈ s.data.toList, lowB b = b) : foldB s = s := by
  apply bytes_inj
  rw [fold_list hs]
  exact (List.map_congr_left h).trans (List.map_id _)
theorem undot_mem {s : ByteArray} {b : UInt8} (h : b ∈ (undotB s).data.toList) : b ∈ s.data.toList := by
  unfold undotB at h
  split at h
  · rw [Lib.extract_data] at h
    exact List.mem_of_mem_drop (List.mem_of_mem_take h)
  · exact h
theorem undot_le (s : ByteArray) : (undotB s).size ≤ s.size ∧ (dotB s = true → (undotB s).size + 1 = s.size) := by
  unfold undotB
  refine ⟨by split <;> simp, fun h => ?_⟩
  rw [if_pos h]
  obtain ⟨l, hl⟩ := dot_cons h
  have : s.size = l.length + 1 := by rw [← size_data, hl]; rfl
  simp
  omega
theorem dom_read {v : ByteArray} (hv : v.size ≤ 60) (hg : goodP v.data.toList) : domOKB (trimB (foldB (undotB v))) = true := by
  obtain ⟨u1, u2⟩ := undot_le v
  have us : (undotB v).size ≤ 65536 := by omega
  have fs := bk_fold_size us
  have ug : goodP (undotB v).data.toList := fun b hb => hg b (undot_mem hb)
  have fg := fold_good us ug
  have tl := bk_trim_le (foldB (undotB v))
  have h1 := plain_trim (by omega) fg
  have h2 : foldB (trimB (foldB (undotB v))) = trimB (foldB (undotB v)) := fold_same (by omega) (fun b hb => by
    have := trim_mem hb
    rw [fold_list us] at this
    obtain ⟨c, _, rfl⟩ := List.mem_map.1 this
    have := low_twice ⟨c.toNat, UInt8.toNat_lt c⟩
    simpa only [of_byte] using this)
  have h3 : ((trimB (foldB (undotB v))).size : Int) ≤ (if dotB (trimB (foldB (undotB v))) then 59 else 60) := by
    split
    · rename_i hd
      by_cases hf : (trimB (foldB (undotB v))).size ≤ 59
      · omega
      · exfalso
        have hnd : dotB v = false := by
          cases hq : dotB v with
          | false => rfl
          | true => have := u2 hq; omega
        have eu : undotB v = v := by rw [undotB, if_neg (by simp [hnd])]
        rw [eu] at hd tl hf fs us
        rw [trim_full (by omega) (by omega)] at hd
        obtain ⟨l, hl⟩ := dot_cons hd
        rw [fold_list us] at hl
        unfold dotB at hnd
        cases hc : v.data.toList with
        | nil => rw [hc] at hl; cases hl
        | cons x m =>
          rw [hc] at hl hnd
          injection hl with hx _
          have : ∀ n : Fin 256, lowB (UInt8.ofNat n.val) = 46 → UInt8.ofNat n.val = 46 := by decide +kernel
          have := this ⟨x.toNat, UInt8.toNat_lt x⟩
          simp only [of_byte] at this
          rw [this hx] at hnd
          simp at hnd
    · omega
  unfold domOKB
  rw [h1, h2]
  simp [h3]
theorem fold_range : ∀ (l : List UInt8) (a : Int), 0 ≤ a → a ≤ 1000000000000 → (∀ b ∈ l, 48 ≤ b.toNat) → 0 ≤ l.foldl (fun n b => min (10 * n + ((b.toNat : Int) - 48)) 1000000000000) a ∧ l.foldl (fun n b => min (10 * n + ((b.toNat : Int) - 48)) 1000000000000) a ≤ 1000000000000
  | [], a, h0, h1, _ => ⟨h0, h1⟩
  | b :: l, a, h0, h1, h => by
    have hb := h b (by simp)
    rw [List.foldl_cons]
    exact fold_range l _ (by omega) (by omega) (fun x hx => h x (by simp [hx]))
theorem acc_range (l : List UInt8) (h : ∀ b ∈ l, 48 ≤ b.toNat) : 0 ≤ acc l ∧ acc l ≤ 1000000000000 := fold_range l 0 (by omega) (by omega) h
theorem dec_range (v : ByteArray) : -1000000000000 ≤ decN v ∧ decN v ≤ 1000000000000 := by
  unfold decN
  split
  · rename_i h
    have h1 := acc_range (restB v).data.toList (fun b hb => ((digit_iff b).1 (List.all_eq_true.1 h b hb)).1)
    unfold sgnB
    split <;> omega
  · omega
theorem date_ok {r : Rd} {d : Dt} (h : dateR r = some d) : okB d = true := by
  unfold dateR at h
  split at h
  · split at h
    · rename_i h2
      injection h with h
      rw [← h]
      exact h2
    · cases h
  · cases h
theorem right_mem {s : ByteArray} {c b : UInt8} (h : b ∈ (rightB s c).data.toList) : b ∈ s.data.toList := by
  unfold rightB at h
  split at h
  · rw [Lib.extract_data] at h
    exact List.mem_of_mem_drop (List.mem_of_mem_take h)
  · cases h
theorem left_mem {s : ByteArray} {c b : UInt8} (h : b ∈ (leftB s c).data.toList) : b ∈ s.data.toList := by
  unfold leftB at h
  split at h
  · split at h
    · rw [Lib.extract_data] at h
      exact List.mem_of_mem_drop (List.mem_of_mem_take h)
    · exact h
  · cases h
theorem site_range (u : ByteArray) : siteOKB (siteN u) = true := by
  unfold siteN
  split
  · rfl
  · split
    · rfl
    · split <;> rfl
theorem pV_facts {x : ByteArray} (hs : x.size ≤ 65536) (hg : goodP x.data.toList) : goodP (pV x).data.toList ∧ plainS (pV x) = true := by
  have hl := right_le x 61
  have hr : goodP (rightB x 61).data.toList := fun b hb => hg b (right_mem hb)
  exact ⟨fun b hb => hr b (trim_mem hb), plain_trim (by omega) hr⟩
theorem attr_good {q : Ps} (h : psGood q) {x : ByteArray} (hs : x.size ≤ 65536) (hg : goodP x.data.toList) : psGood (attrP q x) := by
  obtain ⟨g1, g2⟩ := pV_facts hs hg
  unfold attrP
  split
  · rename_i hv
    obtain ⟨hok, hx⟩ := h
    obtain ⟨o1, o2, o3, o4, o5, o6⟩ := ok_all hok
    unfold doA
    split
    · split
      · rename_i d hd
        have ho := date_ok hd
        have hr := secsN_range ho
        refine ⟨ok_of ⟨o1, o2, o3, o4, ?_, o6⟩, fun _ => ⟨d, ho, rfl⟩⟩
        unfold expOKB
        simp [hr]
      · exact ⟨hok, hx⟩
    · split
      · split
        · have hr := dec_range (pV x)
          refine ⟨ok_of ⟨o1, o2, o3, ?_, o5, o6⟩, hx⟩
          unfold ageOKB
          simp [hr]
        · exact ⟨hok, hx⟩
      · split
        · exact ⟨ok_of ⟨o1, dom_read hv g1, o3, o4, o5, o6⟩, hx⟩
        · split
          · refine ⟨ok_of ⟨o1, o2, ?_, o4, o5, o6⟩, hx⟩
            cases hsl : slashB (pV x) with
            | true =>
              show pathOKB (pV x) true = true
              unfold pathOKB
              rw [if_pos rfl, hsl, g2, decide_eq_true hv]
              rfl
            | false => rfl
          · split
            · exact ⟨ok_of ⟨o1, o2, o3, o4, o5, o6⟩, hx⟩
            · split
              · exact ⟨ok_of ⟨o1, o2, o3, o4, o5, o6⟩, hx⟩
              · split
                · exact ⟨ok_of ⟨o1, o2, o3, o4, o5, site_range _⟩, hx⟩
                · exact ⟨hok, hx⟩
  · exact h
theorem cut_no : ∀ (l x : List UInt8) {c : UInt8}, x ∈ cutL c l → c ∉ x ∧ ∀ b ∈ x, b ∈ l := by
  intro l
  induction h : l.length using Nat.strongRecOn generalizing l with
  | ind n ih =>
    intro x c hx
    by_cases hf : l.findIdx (· == c) < l.length
    · have hne : ∀ b ∈ l.take (l.findIdx (· == c)), b ≠ c := (find_split hf).2
      rw [cut_at hf] at hx
      rcases List.mem_cons.1 hx with rfl | hx
      · exact ⟨fun hc => hne c hc rfl, fun b hb => List.mem_of_mem_take hb⟩
      · obtain ⟨h1, h2⟩ := ih _ (by rw [List.length_drop]; omega) (l.drop (l.findIdx (· == c) + 1)) rfl x hx
        exact ⟨h1, fun b hb => List.mem_of_mem_drop (h2 b hb)⟩
    · rw [cut_whole hf] at hx
      obtain rfl := List.mem_singleton.1 hx
      exact ⟨fun hc => find_none hf c hc rfl, fun b hb => hb⟩
theorem foldP_good : ∀ (l : List (List UInt8)) {q : Ps}, psGood q → (∀ x ∈ l, goodP x ∧ x.length ≤ 65536) → psGood (foldP q l)
  | [], _, h, _ => h
  | x :: l, q, h, hg => foldP_good l (q := attrP q ⟨x.toArray⟩) (attr_good h (by rw [size_list]; exact (hg x (by simp)).2) (hg x (by simp)).1) (fun y hy => hg y (by simp [hy]))
theorem nB_facts {t : ByteArray} (_ : t.size ≤ 65536) (hg : goodP t.data.toList) : goodP (nB t).data.toList ∧ goodP (vB t).data.toList ∧ (61 : UInt8) ∉ (nB t).data.toList := by
  refine ⟨fun b hb => ?_, fun b hb => ?_, ?_⟩
  · unfold nB at hb
    split at hb
    · exact hg b (left_mem hb)
    · cases hb
  · unfold vB at hb
    split at hb
    · exact hg b (right_mem hb)
    · exact hg b (left_mem hb)
  · unfold nB
    split
    · rename_i hc
      rw [left_hit hc]
      have hf : t.data.toList.findIdx (· == 61) < t.data.toList.length := by
        unfold cutB findB at hc
        rw [size_data]
        exact (of_decide_eq_true hc).2
      exact fun h => (find_split hf).2 61 h rfl
    · intro h
      cases h
theorem read_good {t : ByteArray} (h : parC t = 0) : psGood (parP t) := by
  rw [parP, if_pos h]
  unfold parC at h
  by_cases h1 : 65536 < t.size
  · rw [if_pos h1] at h; cases h
  rw [if_neg h1] at h
  cases h2 : controlOK t with
  | true => rw [if_pos h2] at h; cases h
  | false =>
    rw [if_neg (by simp [h2])] at h
    by_cases h3 : (hN t).size + (hV t).size = 0
    · rw [if_pos h3] at h; cases h
    rw [if_neg h3] at h
    by_cases h4 : 100 < (hN t).size + (hV t).size
    · rw [if_pos h4] at h; cases h
    have hp : ∀ b ∈ t.data.toList, plainB b = true := by
      unfold controlOK at h2
      rw [decide_eq_true (by omega), Bool.true_and, Bool.not_eq_false'] at h2
      exact all_iff.1 h2
    have part : ∀ x ∈ partsL t, goodP x ∧ x.length ≤ 65536 := fun x hx => by
      obtain ⟨g1, g2⟩ := cut_no _ _ hx
      refine ⟨fun b hb => ⟨hp b (g2 b hb), fun e => g1 (e ▸ hb)⟩, ?_⟩
      have := cutL_mem hx
      rw [size_data] at this
      omega
    obtain ⟨y, ys, hy⟩ : ∃ y ys, partsL t = y :: ys := by
      cases hc : partsL t with
      | nil => have := cutL_pos 59 t.data.toList; unfold partsL at hc; rw [hc] at this; simp at this
      | cons y ys => exact ⟨y, ys, rfl⟩
    have hh : headT t = ⟨y.toArray⟩ := by rw [headT, hy]; rfl
    obtain ⟨gy, ly⟩ := part y (by rw [hy]; simp)
    obtain ⟨n1, n2, n3⟩ := nB_facts (t := headT t) (by rw [hh, size_list]; exact ly) (by rw [hh]; exact gy)
    have sn := nB_le (headT t)
    have sv := vB_le (headT t)
    have sh : (headT t).size ≤ 65536 := by rw [hh, size_list]; exact ly
    have hpair : pairOKB (hN t) (hV t) = true := by
      unfold pairOKB
      rw [decide_eq_true (by omega), decide_eq_true (by omega), show plainS (hN t) = true from plain_trim (by omega) n1, show plainS (hV t) = true from plain_trim (by omega) n2,
        show allB (hN t) (noneB 61) = true from none_iff.2 (fun hc => n3 (trim_mem hc))]
      rfl
    refine foldP_good _ ?_ (fun x hx => part x (List.mem_of_mem_drop hx))
    refine ⟨ok_of ⟨hpair, show domOKB ⟨#[]⟩ = true by decide +kernel, show pathOKB ⟨#[]⟩ false = true by decide +kernel, rfl, rfl, rfl⟩, fun hf => ?_⟩
    cases hf
theorem good_default : psGood (ps0 ⟨#[97]⟩ ⟨#[98]⟩) := ⟨by decide +kernel, fun h => by cases h⟩
end Go.Proofs.YtpdonghdnaehhaaGreatDoor

namespace Go.Proofs.YtpdonghdnaehhaaGreatDoor
open Go.ChangeShapes Go.WideShapes Go.ChangeAt Go.WideMaps Go.WideElems Go.RowKit

theorem max_is {W : World} (h : W.ShapedOpen Tryz.prog) : MaxIs W :=
  Go.Proofs.cell_of_shapedOpen_int (zero := #[.int .i64 0]) (t := 3) h (of_decide_eq_true (by kernel_rfl)) (by kernel_rfl) rfl (by kernel_rfl) (by kernel_rfl) Tryz.underlying3
theorem gMonths : Tryz.prog.globalNamed "loop.example/g00803/impl.monthNames" = some 2 := by kernel_rfl
theorem tMonths : (Tryz.prog.globals[2]?).map (·.type) = some 205 := by kernel_rfl
theorem row_texts {P : Program} {w : World} {name : String} {zs : List (List UInt8)} {g : Nat} (hg : P.globalNamed name = some g) (h : TextsAt P w name zs) : ∃ t fr, w.heap[g]? = some (.cells (zs.map fun z => Value.string ⟨z.toArray⟩).toArray t fr) := by
  unfold TextsAt World.var? at h
  rw [hg, Option.bind_some] at h
  split at h
  · rename_i cs t fr hh
    cases h
    exact ⟨t, fr, hh⟩
  · cases h
theorem months_laid {W : World} {rest : List (String × DataW Unit)} (h : laidMet Tryz.prog (("loop.example/g00803/impl.monthNames", Rows.laid_loop_example_g00803_impl_monthNames) :: rest) W) : MonthsAt W :=
  row_texts gMonths (texts_of_head (zs := names) (rest := rest) gMonths tMonths Tryz.underlying205 Tryz.underlying9 (by kernel_rfl) (by kernel_rfl) h)
end Go.Proofs.YtpdonghdnaehhaaGreatDoor
