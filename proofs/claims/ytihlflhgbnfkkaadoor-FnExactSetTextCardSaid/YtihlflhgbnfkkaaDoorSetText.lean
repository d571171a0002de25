/- SetText of the program: what it answers. No condition of its own. -/
import Derived.Test.YtihlflhgbnfkkaaDoorSetDef
import Derived.Test.YtihlflhgbnfkkaaDoorParsedOK
import Derived.Test.YtihlflhgbnfkkaaDoorTextLaw
import Derived.Test.YtihlflhgbnfkkaaDoorSite
import Derived.Deep.DeepCutAuto
namespace Go.Proofs.YtihlflhgbnfkkaaDoor
open Go.ChangeShapes Go.WideShapes Go.ChangeAt Go.WideMaps Go.WideElems Go.RowKit

noncomputable def setB (q : Ps) : ByteArray := addT (addH (addS (addP (addD (addA (addE (cat0 q.n q.v) q.he (textV (dateN q.x))) q.ha ⟨(Lib.itoa q.a).toArray⟩) q.d) q.hp q.p) q.sc) q.ho) q.s
/-- What SetText answers. -/
noncomputable def setV (q : Ps) : ByteArray := if psOK q then setB q else ⟨#[]⟩
def setC (q : Ps) : Int := if psOK q then 0 else 1
theorem text_size (a : Dt) : (textV a).size ≤ 140 := by
  unfold textV
  cases hok : okB a with
  | false => exact Nat.zero_le _
  | true =>
    obtain ⟨y, m, d, h, q, s⟩ := a
    obtain ⟨kk, hk, hk7⟩ := week_nat ⟨y, m, d, h, q, s⟩
    obtain ⟨⟨hy1, hy2⟩, ⟨hm1, hm2⟩, _⟩ := (ok_iff _).1 hok
    simp only at hy1 hy2 hm1 hm2
    obtain ⟨mm, rfl⟩ : ∃ mm : Nat, m = mm := ⟨m.toNat, by omega⟩
    rw [if_pos rfl, hk]
    have h1 : (dnam kk).data.toList.length = 3 := by simpa using dnam_size hk7
    have h2 : (mnam mm).data.toList.length = 3 := by simpa using mnam_size (k := mm) (by omega) (by omega)
    have h3 : (Lib.itoa y).length ≤ 100 := by simpa [ByteArray.size] using year_size (y := y) (by omega) hy2
    have e : (⟨(txtL (dnam kk).data.toList (mnam mm).data.toList y d h q s).toArray⟩ : ByteArray).size = (txtL (dnam kk).data.toList (mnam mm).data.toList y d h q s).length := by simp [ByteArray.size]
    rw [e]
    simp only [txtL, twoL, List.length_append, List.length_cons, List.length_nil, h1, h2]
    omega
theorem age_size {a : Int} (h1 : -1000000000000 ≤ a) (h2 : a ≤ 1000000000000) : (⟨(Lib.itoa a).toArray⟩ : ByteArray).size ≤ 20 := by
  unfold Lib.itoa
  split
  · have := digT_size 12 a.natAbs (by omega)
    simp only [digT, ByteArray.size, List.size_toArray] at this ⊢
    simp only [List.length_cons]
    omega
  · have := digT_size 12 a.toNat (by omega)
    simp only [digT, ByteArray.size, List.size_toArray] at this ⊢
    omega
theorem set_sizes {n v d p : ByteArray} {he ha hp : Bool} {x a s : Int} {sc ho : Bool} (h : psOK ⟨n, v, d, p, he, ha, hp, x, a, s, sc, ho⟩ = true) : n.size + v.size ≤ 100 ∧ d.size ≤ 60 ∧ p.size ≤ 60 ∧ (-11644473600 ≤ x ∧ x ≤ 253402300799) ∧ (-1000000000000 ≤ a ∧ a ≤ 1000000000000) ∧ (1 ≤ s ∧ s ≤ 4) := by
  simp only [psOK, Bool.and_eq_true] at h
  obtain ⟨h1, h2, h3, h4, h5, h6⟩ := h
  simp only [pairOKB, Bool.and_eq_true, decide_eq_true_eq] at h1
  simp only [domOKB, Bool.and_eq_true, decide_eq_true_eq] at h2
  simp only [ageOKB, Bool.and_eq_true, decide_eq_true_eq] at h4
  simp only [expOKB, Bool.and_eq_true, decide_eq_true_eq] at h5
  simp only [siteOKB, Bool.and_eq_true, decide_eq_true_eq] at h6
  refine ⟨h1.2.1, ?_, ?_, h5.1, ⟨h4.1, h4.2.1⟩, h6⟩
  · have := h2.1
    split at this <;> omega
  · unfold pathOKB at h3
    split at h3
    · simp only [Bool.and_eq_true, decide_eq_true_eq] at h3
      exact h3.1
    · simp only [decide_eq_true_eq] at h3
      omega
theorem expires_any (x : Int) (w : World) (h1 : -11644473600 ≤ x) (h2 : x ≤ 253402300799) (hN : NamesAt w) : Calls Tryd.prog 16 #[.int .i64 x] w fun e w' => e = .returned (.string (textV (dateN x))) ∧ Below w.heap.size w w' := by
  have HN := Lib.hid hN
  clear hN
  go_enter Tryd.func16, Tryd.ntmps16
  go_wp2_with fail
  refine (implDateIn x _ h1 h2).mono ?_
  rintro e w1 ⟨y, m, d, h, q, s, hd, rfl, hb⟩
  have HE : Hid (textV (dateN x) = textV ⟨y, m, d, h, q, s⟩) := Lib.hid (by rw [dateN_is hd])
  have B1 := Lib.hid (hb.alloc hb.size (.cells #[.int .i64 y, .int .i64 m, .int .i64 d, .int .i64 h, .int .i64 q, .int .i64 s] 47))
  clear hb hd
  go_wp2_with fail
  refine (implText y m d h q s _ (HN.out.below B1.out)).mono ?_
  rintro e w2 ⟨rfl, hb⟩
  have B2 := Lib.hid (B1.out.trans (hb.mono B1.out.size))
  clear hb
  go_wp2_with fail
  go_ret
  exact ⟨by rw [HE.out]; rfl, B2.out⟩
theorem domainText_any (d : ByteArray) (w : World) (h : d.size ≤ 1000) : Calls Tryd.prog 18 #[.string d] w fun e w' => e = .returned (.string (domT d)) ∧ w = w' := by
  cases g : dotB d with
  | true =>
    have G := Lib.hid g
    unfold dotB at g
    go_enter Tryd.func18, Tryd.ntmps18
    go_wp2_with fail
    refine (prefix_any d 46 _).mono ?_
    rintro e w' ⟨rfl, rfl⟩
    rw [g]
    clear g
    go_wp2_with fail
    go_ret
    exact ⟨by rw [domT, G.out]; rfl, rfl⟩
  | false =>
    have G := Lib.hid g
    unfold dotB at g
    go_enter Tryd.func18, Tryd.ntmps18
    go_wp2_with fail
    refine (prefix_any d 46 _).mono ?_
    rintro e w' ⟨rfl, rfl⟩
    rw [g]
    clear g
    go_wp2_with fail
    go_ret
    exact ⟨by rw [domT, G.out]; rfl, rfl⟩
theorem SitesAt.one {w : World} (h : SitesAt w) : w.cell? ⟨0, 1, none⟩ = some (.string ⟨#[78, 111, 110, 101]⟩) := h.cell 1 (by omega)
theorem SitesAt.two {w : World} (h : SitesAt w) : w.cell? ⟨0, 2, none⟩ = some (.string ⟨#[76, 97, 120]⟩) := h.cell 2 (by omega)
theorem SitesAt.three {w : World} (h : SitesAt w) : w.cell? ⟨0, 3, none⟩ = some (.string ⟨#[83, 116, 114, 105, 99, 116]⟩) := h.cell 3 (by omega)
theorem age_any (a : Int) (w : World) (h1 : -1000000000000 ≤ a) (h2 : a ≤ 1000000000000) (hP : PowAt w) : Calls Tryd.prog 17 #[.int .i64 a] w fun e w' => e = .returned (.string ⟨(Lib.itoa a).toArray⟩) ∧ Below w.heap.size w w' := by
  refine (Tryd.strconv_Itoa a (by omega) (by omega) w hP).mono ?_
  rintro e w' ⟨rfl, hw⟩
  exact ⟨rfl, grow_below hw⟩
theorem dom_size {d : ByteArray} (h : d.size ≤ 60) : (domT d).size ≤ 61 := by
  unfold domT
  split
  · rw [ByteArray.size_append]
    show 1 + _ ≤ _
    omega
  · omega
theorem add_size1 {t E : ByteArray} {he : Bool} (h : t.size ≤ 101) (hE : E.size ≤ 140) : (addE t he E).size ≤ 300 := by
  unfold addE
  split
  · rw [ByteArray.size_append, ByteArray.size_append]; show _ + (10 + _) ≤ _; omega
  · omega
theorem add_size2 {t E : ByteArray} {he : Bool} (h : t.size ≤ 300) (hE : E.size ≤ 20) : (addA t he E).size ≤ 350 := by
  unfold addA
  split
  · rw [ByteArray.size_append, ByteArray.size_append]; show _ + (10 + _) ≤ _; omega
  · omega
theorem add_size3 {t d : ByteArray} (h : t.size ≤ 350) (hd : d.size ≤ 60) : (addD t d).size ≤ 450 := by
  unfold addD
  have := dom_size hd
  split
  · omega
  · rw [ByteArray.size_append, ByteArray.size_append]; show _ + (9 + _) ≤ _; omega
theorem add_size4 {t p : ByteArray} {hp : Bool} (h : t.size ≤ 450) (hd : p.size ≤ 60) : (addP t hp p).size ≤ 550 := by
  unfold addP
  split
  · rw [ByteArray.size_append, ByteArray.size_append]; show _ + (7 + _) ≤ _; omega
  · omega
theorem add_size5 {t : ByteArray} {hp : Bool} (h : t.size ≤ 550) : (addS t hp).size ≤ 560 := by
  unfold addS
  split
  · rw [ByteArray.size_append]; show _ + 8 ≤ _; omega
  · omega
theorem add_size6 {t : ByteArray} {hp : Bool} (h : t.size ≤ 560) : (addH t hp).size ≤ 580 := by
  unfold addH
  split
  · rw [ByteArray.size_append]; show _ + 10 ≤ _; omega
  · omega
theorem add_size7 {t : ByteArray} {s : Int} (h : t.size ≤ 580) : (addT t s).size ≤ 620 := by
  unfold addT siteW
  split
  · omega
  · rw [ByteArray.size_append, ByteArray.size_append]
    show _ + (11 + _) ≤ _
    split
    · show _ + (11 + 4) ≤ _; omega
    · split
      · show _ + (11 + 3) ≤ _; omega
      · show _ + (11 + 6) ≤ _; omega
def TxCut (w : World) (t : ByteArray) (n v d p : ByteArray) (he ha hp : Bool) (x a s : Int) (sc ho : Bool) (u : Value) (wx : World) : Prop := u = .string t ∧ PsB wx w.heap.size n v d p he ha hp x a s sc ho ∧ Below w.heap.size w wx
set_option maxHeartbeats 60000000 in
set_option maxRecDepth 100000 in
theorem implSet (n v d p : ByteArray) (he ha hp : Bool) (x a s : Int) (sc ho : Bool) (w : World) (hn : n.size ≤ 1048576) (hv : v.size ≤ 1048576) (hd : d.size ≤ 1048576) (hpp : p.size ≤ 1048576) (hT : TabAt w) (hN : NamesAt w) (hW : SitesAt w) :
    Calls Tryd.prog 9 #[.agg #[.string n, .string v, .string d, .string p, .bool he, .bool ha, .bool hp, .int .i64 x, .int .i64 a, .int .i64 s, .bool sc, .bool ho]] w fun e w' => e = .returned (.tuple #[.string (setV ⟨n, v, d, p, he, ha, hp, x, a, s, sc, ho⟩), .int .i64 (setC ⟨n, v, d, p, he, ha, hp, x, a, s, sc, ho⟩)]) ∧ Below w.heap.size w w' := by
  have HT := Lib.hid hT
  have HNM := Lib.hid hN
  have HW := Lib.hid hW
  clear hT hN hW
  have B0 := Lib.hid ((Below.refl w.heap.size w).alloc (Nat.le_refl _) (.cells #[.string n, .string v, .string d, .string p, .bool he, .bool ha, .bool hp, .int .i64 x, .int .i64 a, .int .i64 s, .bool sc, .bool ho] 27))
  have P0 := Lib.hid (PsB.new w n v d p he ha hp x a s sc ho)
  go_enter Tryd.func9, Tryd.ntmps9
  go_wp2_with fail
  refine (parsedOK_any n v d p he ha hp x a s sc ho _ hn hv hd hpp (HT.out.below B0.out)).mono ?_
  rintro e w1 ⟨rfl, hb⟩
  have B1 := Lib.hid (B0.out.trans (hb.mono B0.out.size))
  have P1 := Lib.hid (P0.out.stays hb)
  clear hb P0 B0
  cases g : psOK ⟨n, v, d, p, he, ha, hp, x, a, s, sc, ho⟩ with
  | false =>
    have HV : Hid (setV ⟨n, v, d, p, he, ha, hp, x, a, s, sc, ho⟩ = ⟨#[]⟩) := Lib.hid (by rw [setV, g]; rfl)
    have HC : Hid (setC ⟨n, v, d, p, he, ha, hp, x, a, s, sc, ho⟩ = 1) := Lib.hid (by rw [setC, g]; rfl)
    go_wp2_with fail
    go_ret2
    exact ⟨by rw [HV.out, HC.out]; rfl, B1.out⟩
  | true =>
    have HV : Hid (setV ⟨n, v, d, p, he, ha, hp, x, a, s, sc, ho⟩ = setB ⟨n, v, d, p, he, ha, hp, x, a, s, sc, ho⟩) := Lib.hid (by rw [setV, g]; rfl)
    have HC : Hid (setC ⟨n, v, d, p, he, ha, hp, x, a, s, sc, ho⟩ = 0) := Lib.hid (by rw [setC, g]; rfl)
    obtain ⟨z1, z2, z3, ⟨z4, z5⟩, ⟨z6, z7⟩, ⟨z8, z9⟩⟩ := set_sizes g
    have zE := text_size (dateN x)
    have zA := age_size z6 z7
    obtain ⟨E, hE⟩ : ∃ E, textV (dateN x) = E := ⟨_, rfl⟩
    obtain ⟨G, hG⟩ : ∃ G : ByteArray, ⟨(Lib.itoa a).toArray⟩ = G := ⟨_, rfl⟩
    rw [hE] at zE
    rw [hG] at zA
    have HE := Lib.hid hE
    have HG := Lib.hid hG
    have HSB : Hid (setB ⟨n, v, d, p, he, ha, hp, x, a, s, sc, ho⟩ = addT (addH (addS (addP (addD (addA (addE (cat0 n v) he E) ha G) d) hp p) sc) ho) s) := Lib.hid (by unfold setB; simp only [hE, hG])
    clear hE hG
    have zt0 : (cat0 n v).size ≤ 101 := by unfold cat0; rw [ByteArray.size_append, ByteArray.size_append]; show _ + 1 + _ ≤ _; omega
    clear g
    obtain ⟨c0, c1, c2, c3, c4, c5, c6, c7, c8, c9, c10, c11⟩ := P1.out.at
    go_upto_if 15 with fail
    go_cut [4] (fun u wx => TxCut w (addE (cat0 n v) he E) n v d p he ha hp x a s sc ho u wx)
    case first =>
      cases he with
      | false =>
        go_wp2_with fail
        go_meet
        exact ⟨rfl, P1.out, B1.out⟩
      | true =>
        go_wp2_with fail
        refine (expires_any x _ z4 z5 (HNM.out.below B1.out)).mono ?_
        rintro e w2 ⟨rfl, hb⟩
        rw [HE.out]
        have B2 := Lib.hid (B1.out.trans (hb.mono B1.out.size))
        have P2 := Lib.hid (P1.out.stays hb)
        clear hb
        go_wp2_with fail
        go_meet
        exact ⟨rfl, P2.out, B2.out⟩
    case rest =>
      rename_i wk
      obtain ⟨rfl, P, B⟩ := hcut
      have P := Lib.hid P
      have B := Lib.hid B
      clear c0 c1 c2 c3 c4 c5 c6 c7 c8 c9 c10 c11
      obtain ⟨c0, c1, c2, c3, c4, c5, c6, c7, c8, c9, c10, c11⟩ := P.out.at
      obtain ⟨t1, ht1⟩ : ∃ t, addE (cat0 n v) he E = t := ⟨_, rfl⟩
      have zt1 : t1.size ≤ 300 := by rw [← ht1]; exact add_size1 zt0 zE
      rw [ht1]
      rw [ht1] at HSB
      clear ht1
      go_upto_if 23 with fail
      go_cut [4] (fun u wx => TxCut w (addA t1 ha G) n v d p he ha hp x a s sc ho u wx)
      case first =>
        cases ha with
        | false =>
          go_wp2_with fail
          go_meet
          exact ⟨rfl, P.out, B.out⟩
        | true =>
          go_wp2_with fail
          refine (age_any a _ z6 z7 (HNM.out.below B.out).2.2).mono ?_
          rintro e w2 ⟨rfl, hb⟩
          rw [HG.out]
          have B2 := Lib.hid (B.out.trans (hb.mono B.out.size))
          have P2 := Lib.hid (P.out.stays hb)
          clear hb
          go_wp2_with fail
          go_meet
          exact ⟨rfl, P2.out, B2.out⟩
      case rest =>
        rename_i wk
        obtain ⟨rfl, P, B⟩ := hcut
        have P := Lib.hid P
        have B := Lib.hid B
        clear c0 c1 c2 c3 c4 c5 c6 c7 c8 c9 c10 c11
        obtain ⟨c0, c1, c2, c3, c4, c5, c6, c7, c8, c9, c10, c11⟩ := P.out.at
        obtain ⟨t2, ht2⟩ : ∃ t, addA t1 ha G = t := ⟨_, rfl⟩
        have zt2 : t2.size ≤ 350 := by rw [← ht2]; exact add_size2 zt1 zA
        rw [ht2]
        rw [ht2] at HSB
        clear ht2
        go_upto_if 32 with fail
        go_cut [4] (fun u wx => TxCut w (addD t2 d) n v d p he ha hp x a s sc ho u wx)
        case first =>
          cases ed : d.toList.isEmpty with
          | true =>
            have hd0 := empty_size ed
            go_wp2_with fail
            go_meet
            exact ⟨by rw [addD, if_pos hd0], P.out, B.out⟩
          | false =>
            have hd0 : ¬ d.size = 0 := by have := some_size ed; omega
            have zd : (domT d).size ≤ 61 := dom_size z2
            go_wp2_with fail
            refine (domainText_any d _ (by omega)).mono ?_
            rintro e w' ⟨rfl, rfl⟩
            go_wp2_with fail
            go_meet
            exact ⟨by rw [addD, if_neg hd0]; rfl, P.out, B.out⟩
        case rest =>
          rename_i wk
          obtain ⟨rfl, P, B⟩ := hcut
          have P := Lib.hid P
          have B := Lib.hid B
          clear c0 c1 c2 c3 c4 c5 c6 c7 c8 c9 c10 c11
          obtain ⟨c0, c1, c2, c3, c4, c5, c6, c7, c8, c9, c10, c11⟩ := P.out.at
          obtain ⟨t3, ht3⟩ : ∃ t, addD t2 d = t := ⟨_, rfl⟩
          have zt3 : t3.size ≤ 450 := by rw [← ht3]; exact add_size3 zt2 z2
          rw [ht3]
          rw [ht3] at HSB
          clear ht3
          go_upto_if 40 with fail
          go_cut [4] (fun u wx => TxCut w (addP t3 hp p) n v d p he ha hp x a s sc ho u wx)
          case first =>
            cases hp with
            | false =>
              go_wp2_with fail
              go_meet
              exact ⟨rfl, P.out, B.out⟩
            | true =>
              go_wp2_with fail
              go_meet
              exact ⟨rfl, P.out, B.out⟩
          case rest =>
            rename_i wk
            obtain ⟨rfl, P, B⟩ := hcut
            have P := Lib.hid P
            have B := Lib.hid B
            clear c0 c1 c2 c3 c4 c5 c6 c7 c8 c9 c10 c11
            obtain ⟨c0, c1, c2, c3, c4, c5, c6, c7, c8, c9, c10, c11⟩ := P.out.at
            obtain ⟨t4, ht4⟩ : ∃ t, addP t3 hp p = t := ⟨_, rfl⟩
            have zt4 : t4.size ≤ 550 := by rw [← ht4]; exact add_size4 zt3 z3
            rw [ht4]
            rw [ht4] at HSB
            clear ht4
            go_upto_if 47 with fail
            go_cut [4] (fun u wx => TxCut w (addS t4 sc) n v d p he ha hp x a s sc ho u wx)
            case first =>
              cases sc with
              | false =>
                go_wp2_with fail
                go_meet
                exact ⟨rfl, P.out, B.out⟩
              | true =>
                go_wp2_with fail
                go_meet
                exact ⟨rfl, P.out, B.out⟩
            case rest =>
              rename_i wk
              obtain ⟨rfl, P, B⟩ := hcut
              have P := Lib.hid P
              have B := Lib.hid B
              clear c0 c1 c2 c3 c4 c5 c6 c7 c8 c9 c10 c11
              obtain ⟨c0, c1, c2, c3, c4, c5, c6, c7, c8, c9, c10, c11⟩ := P.out.at
              obtain ⟨t5, ht5⟩ : ∃ t, addS t4 sc = t := ⟨_, rfl⟩
              have zt5 : t5.size ≤ 560 := by rw [← ht5]; exact add_size5 zt4
              rw [ht5]
              rw [ht5] at HSB
              clear ht5
              go_upto_if 51 with fail
              go_cut [4] (fun u wx => TxCut w (addH t5 ho) n v d p he ha hp x a s sc ho u wx)
              case first =>
                cases ho with
                | false =>
                  go_wp2_with fail
                  go_meet
                  exact ⟨rfl, P.out, B.out⟩
                | true =>
                  go_wp2_with fail
                  go_meet
                  exact ⟨rfl, P.out, B.out⟩
              case rest =>
                rename_i wk
                obtain ⟨rfl, P, B⟩ := hcut
                have P := Lib.hid P
                have B := Lib.hid B
                clear c0 c1 c2 c3 c4 c5 c6 c7 c8 c9 c10 c11
                obtain ⟨c0, c1, c2, c3, c4, c5, c6, c7, c8, c9, c10, c11⟩ := P.out.at
                obtain ⟨t6, ht6⟩ : ∃ t, addH t5 ho = t := ⟨_, rfl⟩
                have zt6 : t6.size ≤ 580 := by rw [← ht6]; exact add_size6 zt5
                rw [ht6]
                rw [ht6] at HSB
                clear ht6
                go_upto_if 56 with fail
                go_cut [4] (fun u wx => TxCut w (addT t6 s) n v d p he ha hp x a s sc ho u wx)
                case first =>
                  rcases (show s = 1 ∨ s = 2 ∨ s = 3 ∨ s = 4 by omega) with rfl | rfl | rfl | rfl
                  · have cs := (HW.out.below B.out).one
                    go_wp2_with fail
                    go_meet
                    exact ⟨rfl, P.out, B.out⟩
                  · have cs := (HW.out.below B.out).two
                    go_wp2_with fail
                    go_meet
                    exact ⟨rfl, P.out, B.out⟩
                  · have cs := (HW.out.below B.out).three
                    go_wp2_with fail
                    go_meet
                    exact ⟨rfl, P.out, B.out⟩
                  · go_wp2_with fail
                    go_meet
                    exact ⟨rfl, P.out, B.out⟩
                case rest =>
                  rename_i wk
                  obtain ⟨rfl, P, B⟩ := hcut
                  have P := Lib.hid P
                  have B := Lib.hid B
                  clear c0 c1 c2 c3 c4 c5 c6 c7 c8 c9 c10 c11
                  obtain ⟨c0, c1, c2, c3, c4, c5, c6, c7, c8, c9, c10, c11⟩ := P.out.at
                  obtain ⟨t7, ht7⟩ : ∃ t, addT t6 s = t := ⟨_, rfl⟩
                  have zt7 : t7.size ≤ 620 := by rw [← ht7]; exact add_size7 zt6
                  rw [ht7]
                  rw [ht7] at HSB
                  clear ht7
                  go_wp2_with fail
                  go_ret2
                  exact ⟨by rw [HV.out, HC.out, HSB.out]; rfl, B.out⟩
end Go.Proofs.YtihlflhgbnfkkaaDoor
