/- The text of a valid parsed header, in the model. No condition of its own. -/
import Derived.Test.YtpdonghdnaehhaaGreatDoorZGj
import Derived.Test.YtpdonghdnaehhaaGreatDoorZDigits
import Derived.Test.YtpdonghdnaehhaaGreatDoorZGi
import Derived.Deep.RegionHeld3
namespace Go.Proofs.YtpdonghdnaehhaaGreatDoor
open Go.ChangeShapes Go.WideShapes Go.ChangeAt Go.WideMaps Go.WideElems Go.RowKit

theorem cellsDrew {w wx : World} {n v d p : ByteArray} {he ha hp : Bool} {x a s : Int} {sc ho : Bool} (hp' : PsB wx w.heap.size n v d p he ha hp x a s sc ho) (hb : Below w.heap.size w wx) : wx.drew.cell? ⟨w.heap.size, 0, none⟩ = some (.string n) ∧ wx.drew.cell? ⟨w.heap.size, 1, none⟩ = some (.string v) ∧ wx.drew.cell? ⟨w.heap.size, 2, none⟩ = some (.string d) ∧ wx.drew.cell? ⟨w.heap.size, 3, none⟩ = some (.string p) ∧ wx.drew.cell? ⟨w.heap.size, 4, none⟩ = some (.bool he) ∧ wx.drew.cell? ⟨w.heap.size, 5, none⟩ = some (.bool ha) ∧ wx.drew.cell? ⟨w.heap.size, 6, none⟩ = some (.bool hp) ∧ wx.drew.cell? ⟨w.heap.size, 7, none⟩ = some (.int .i64 x) ∧ wx.drew.cell? ⟨w.heap.size, 8, none⟩ = some (.int .i64 a) ∧ wx.drew.cell? ⟨w.heap.size, 9, none⟩ = some (.int .i64 s) ∧ wx.drew.cell? ⟨w.heap.size, 10, none⟩ = some (.bool sc) ∧ wx.drew.cell? ⟨w.heap.size, 11, none⟩ = some (.bool ho) ∧ PsB wx.drew w.heap.size n v d p he ha hp x a s sc ho ∧ Below w.heap.size w wx.drew := by
  obtain ⟨c0, c1, c2, c3, c4, c5, c6, c7, c8, c9, c10, c11⟩ := hp'.at
  exact ⟨c0, c1, c2, c3, c4, c5, c6, c7, c8, c9, c10, c11, hp', hb.drew⟩
theorem cellsKeep {w wx wy : World} {n v d p : ByteArray} {he ha hp : Bool} {x a s : Int} {sc ho : Bool} (h : wx.cell? ⟨w.heap.size, 0, none⟩ = some (.string n) ∧ wx.cell? ⟨w.heap.size, 1, none⟩ = some (.string v) ∧ wx.cell? ⟨w.heap.size, 2, none⟩ = some (.string d) ∧ wx.cell? ⟨w.heap.size, 3, none⟩ = some (.string p) ∧ wx.cell? ⟨w.heap.size, 4, none⟩ = some (.bool he) ∧ wx.cell? ⟨w.heap.size, 5, none⟩ = some (.bool ha) ∧ wx.cell? ⟨w.heap.size, 6, none⟩ = some (.bool hp) ∧ wx.cell? ⟨w.heap.size, 7, none⟩ = some (.int .i64 x) ∧ wx.cell? ⟨w.heap.size, 8, none⟩ = some (.int .i64 a) ∧ wx.cell? ⟨w.heap.size, 9, none⟩ = some (.int .i64 s) ∧ wx.cell? ⟨w.heap.size, 10, none⟩ = some (.bool sc) ∧ wx.cell? ⟨w.heap.size, 11, none⟩ = some (.bool ho) ∧ PsB wx w.heap.size n v d p he ha hp x a s sc ho ∧ Below w.heap.size w wx) (hb : Below wx.heap.size wx wy) : wy.cell? ⟨w.heap.size, 0, none⟩ = some (.string n) ∧ wy.cell? ⟨w.heap.size, 1, none⟩ = some (.string v) ∧ wy.cell? ⟨w.heap.size, 2, none⟩ = some (.string d) ∧ wy.cell? ⟨w.heap.size, 3, none⟩ = some (.string p) ∧ wy.cell? ⟨w.heap.size, 4, none⟩ = some (.bool he) ∧ wy.cell? ⟨w.heap.size, 5, none⟩ = some (.bool ha) ∧ wy.cell? ⟨w.heap.size, 6, none⟩ = some (.bool hp) ∧ wy.cell? ⟨w.heap.size, 7, none⟩ = some (.int .i64 x) ∧ wy.cell? ⟨w.heap.size, 8, none⟩ = some (.int .i64 a) ∧ wy.cell? ⟨w.heap.size, 9, none⟩ = some (.int .i64 s) ∧ wy.cell? ⟨w.heap.size, 10, none⟩ = some (.bool sc) ∧ wy.cell? ⟨w.heap.size, 11, none⟩ = some (.bool ho) ∧ PsB wy w.heap.size n v d p he ha hp x a s sc ho ∧ Below w.heap.size w wy := by
  obtain ⟨_, _, _, _, _, _, _, _, _, _, _, _, h1, h2⟩ := h
  have h3 := h1.stays hb
  obtain ⟨c0, c1, c2, c3, c4, c5, c6, c7, c8, c9, c10, c11⟩ := h3.at
  exact ⟨c0, c1, c2, c3, c4, c5, c6, c7, c8, c9, c10, c11, h3, h2.trans (hb.mono h2.size)⟩
theorem lowHere (w : World) : Calls Tryz.prog 159 #[] w fun e w' => e = .returned (.int .i64 (-11644473600)) ∧ Below w.heap.size w w' := by
  go_enter Tryz.func159, Tryz.ntmps159
  go_wp2_with fail
  refine (specSecsL 1601 1 1 0 0 0 _ ok_first).mono ?_
  rintro e w1 ⟨rfl, hb⟩
  rw [secs_first]
  have HB := Lib.hid hb
  clear hb
  go_wp2_with fail
  go_ret
  exact ⟨rfl, HB.out⟩
theorem textHere {y m d h q s : Int} (hok : okB ⟨y, m, d, h, q, s⟩ = true) (w : World) : Calls Tryz.prog 161 #[.agg #[.int .i64 y, .int .i64 m, .int .i64 d, .int .i64 h, .int .i64 q, .int .i64 s]] w fun e w' => e = .returned (.string (textV ⟨y, m, d, h, q, s⟩)) ∧ Below w.heap.size w w' := by
  obtain ⟨⟨hy1, hy2⟩, ⟨hm1, hm2⟩, _⟩ := (ok_iff _).1 hok
  simp only at hy1 hy2 hm1 hm2
  obtain ⟨kk, hk, hk7⟩ := week_nat ⟨y, m, d, h, q, s⟩
  obtain ⟨mm, rfl⟩ : ∃ mm : Nat, m = mm := ⟨m.toNat, by omega⟩
  have HV : textV ⟨y, mm, d, h, q, s⟩ = ⟨(txtL (dnam kk).data.toList (mnam mm).data.toList y d h q s).toArray⟩ := by rw [textV, if_pos hok, hk]
  rw [HV]
  exact specTextL y d h q s w kk mm _ _ rfl rfl _ rfl (year_size (by omega) hy2) hok hk
/-- The model's three words, in a block of the call's own. -/
theorem sites_any (w : World) : Calls Tryz.prog 164 #[] w fun e w' => e = .returned (.slice (some ⟨w.heap.size, 0, none⟩) 3 3) ∧ w' = w.alloc (.cells #[.string ⟨#[78, 111, 110, 101]⟩, .string ⟨#[76, 97, 120]⟩, .string ⟨#[83, 116, 114, 105, 99, 116]⟩] 9) := by
  go_enter Tryz.func164, Tryz.ntmps164
  go_wp2_with fail
  go_ret
  exact ⟨rfl, rfl⟩
theorem empty_dot {d : ByteArray} (h : d.size = 0) : dotB d = false := by
  have : d.data.toList = [] := List.eq_nil_of_length_eq_zero (by simpa using h)
  unfold dotB
  rw [this]
  rfl
def DotCut (w : World) (b : Bool) (n v d p : ByteArray) (he ha hp : Bool) (x a s : Int) (sc ho : Bool) (u : Value) (wx : World) : Prop := u = .bool b ∧ PsB wx w.heap.size n v d p he ha hp x a s sc ho ∧ Below w.heap.size w wx
theorem date_at {m x : Int} {b : Dt} (h : IsDate m b) (e : m = x + 11644473600) : IsDate (x + 11644473600) b := by
  rw [← e]
  exact h
def SitesPost (w : World) (e : Ending) (w' : World) : Prop := ∃ g, e = .returned (.slice (some ⟨g, 0, none⟩) 3 3) ∧ (w'.cell? ⟨g, 0, none⟩ = some (.string ⟨#[78, 111, 110, 101]⟩) ∧ w'.cell? ⟨g, 1, none⟩ = some (.string ⟨#[76, 97, 120]⟩) ∧ w'.cell? ⟨g, 2, none⟩ = some (.string ⟨#[83, 116, 114, 105, 99, 116]⟩)) ∧ Below w.heap.size w w'
theorem sitesHere (w : World) : Calls Tryz.prog 164 #[] w (SitesPost w) := by
  refine (sites_any w).mono ?_
  rintro e w' ⟨rfl, rfl⟩
  exact ⟨_, rfl, ⟨by rw [World.cell?_alloc_at _ _ _ _ rfl]; rfl, by rw [World.cell?_alloc_at _ _ _ _ rfl]; rfl, by rw [World.cell?_alloc_at _ _ _ _ rfl]; rfl⟩, (Below.refl _ _).alloc (Nat.le_refl _) _⟩
theorem headDot {d : ByteArray} (h0 : 0 < d.size) : (d.data.toList.head? == some 46) = (((d[0]'h0).toNat : Int) == 46) := by
  have hl : 0 < d.data.toList.length := by simpa using h0
  have e : d.data.toList.head? = some (d[0]'h0) := by
    rw [List.head?_eq_getElem?, List.getElem?_eq_getElem hl]
    rfl
  rw [e]
  by_cases h : d[0]'h0 = 46
  · rw [h]
    rfl
  · have h2 : (((d[0]'h0).toNat : Int) == 46) = false := by
      rw [beq_eq_false_iff_ne]
      intro e2
      exact h (UInt8.toNat_inj.1 (show (d[0]'h0).toNat = 46 by omega))
    rw [h2, beq_eq_false_iff_ne]
    simpa using h
theorem dot_text (t d : ByteArray) : t ++ (tDot ++ d) = t ++ (tDom ++ (⟨#[46]⟩ ++ d)) := by
  apply bytes_inj
  simp [tDot, tDom]
set_option maxHeartbeats 60000000 in
set_option maxRecDepth 100000 in
theorem specTextAll (n v d p : ByteArray) (he ha hp : Bool) (x a s : Int) (sc ho : Bool) (w : World) (g : psOK ⟨n, v, d, p, he, ha, hp, x, a, s, sc, ho⟩ = true) :
    Calls Tryz.prog 70 #[.agg #[.string n, .string v, .string d, .string p, .bool he, .bool ha, .bool hp, .int .i64 x, .int .i64 a, .int .i64 s, .bool sc, .bool ho]] w fun e w' => e = .returned (.string (setB ⟨n, v, d, p, he, ha, hp, x, a, s, sc, ho⟩)) ∧ Below w.heap.size w w' := by
  obtain ⟨z1, z2, z3, ⟨z4, z5⟩, ⟨z6, z7⟩, ⟨z8, z9⟩⟩ := set_sizes g
  clear g
  have zE := text_size (dateN x)
  have zA := age_size z6 z7
  obtain ⟨E, hE⟩ : ∃ E, textV (dateN x) = E := ⟨_, rfl⟩
  obtain ⟨G, hG⟩ : ∃ G : ByteArray, ⟨(Lib.itoa a).toArray⟩ = G := ⟨_, rfl⟩
  rw [hE] at zE
  rw [hG] at zA
  have HE := Lib.hid hE
  have HG := Lib.hid hG
  have HSB : Hid (setB ⟨n, v, d, p, he, ha, hp, x, a, s, sc, ho⟩ = addT (addH (addS (addP (addD (addA (addE (cat0 n v) he E) ha G) d) hp p) sc) ho) s) := Lib.hid (by unfold setB; simp only [hE, hG])
  clear hE hG
  have zt0 : (cat0 n v).size ≤ 101 := by unfold cat0; rw [ByteArray.size_append, ByteArray.size_append]; show _ + 1 + _ ≤ _; omega
  have B1 := Lib.hid ((Below.refl w.heap.size w).alloc (Nat.le_refl _) (.cells #[.string n, .string v, .string d, .string p, .bool he, .bool ha, .bool hp, .int .i64 x, .int .i64 a, .int .i64 s, .bool sc, .bool ho] 24))
  have P1 := Lib.hid (PsB.new w n v d p he ha hp x a s sc ho)
  go_enter Tryz.func70, Tryz.ntmps70
  obtain ⟨c0, c1, c2, c3, c4, c5, c6, c7, c8, c9, c10, c11⟩ := P1.out.at
  go_upto_if 11 with fail
  go_cut [3] (fun u wx => TxCut w (addE (cat0 n v) he E) n v d p he ha hp x a s sc ho u wx)
  case first =>
    cases he with
    | false =>
      go_wp2_with fail
      go_meet
      exact ⟨rfl, P1.out, B1.out⟩
    | true =>
      have a1 := add_text tExp E (by show 10 + _ ≤ _; omega)
      have a2 := add_text (cat0 n v) (tExp ++ E) (by rw [ByteArray.size_append]; show _ + (10 + _) ≤ _; omega)
      unfold tExp at a1 a2
      have wr1 : IntKind.i64.wrap (x - -11644473600) = x + 11644473600 := by rw [Int.sub_neg]; exact IntWalk.i64_in _ (by omega)
      have wr2 : IntKind.i64.wrap (x + 11644473600) = x + 11644473600 := IntWalk.i64_in _ (by omega)
      have HCAT : Hid (cat0 n v = n ++ ⟨#[61]⟩ ++ v) := Lib.hid rfl
      unfold cat0 at a2
      have hS0 := cellsDrew P1.out B1.out
      clear c0 c1 c2 c3 c4 c5 c6 c7 c8 c9 c10 c11
      go_wp2_with fail
      go_region_held3 (fun w' => w'.cell? ⟨w.heap.size, 0, none⟩ = some (.string n) ∧ w'.cell? ⟨w.heap.size, 1, none⟩ = some (.string v) ∧ w'.cell? ⟨w.heap.size, 2, none⟩ = some (.string d) ∧ w'.cell? ⟨w.heap.size, 3, none⟩ = some (.string p) ∧ w'.cell? ⟨w.heap.size, 4, none⟩ = some (.bool true) ∧ w'.cell? ⟨w.heap.size, 5, none⟩ = some (.bool ha) ∧ w'.cell? ⟨w.heap.size, 6, none⟩ = some (.bool hp) ∧ w'.cell? ⟨w.heap.size, 7, none⟩ = some (.int .i64 x) ∧ w'.cell? ⟨w.heap.size, 8, none⟩ = some (.int .i64 a) ∧ w'.cell? ⟨w.heap.size, 9, none⟩ = some (.int .i64 s) ∧ w'.cell? ⟨w.heap.size, 10, none⟩ = some (.bool sc) ∧ w'.cell? ⟨w.heap.size, 11, none⟩ = some (.bool ho) ∧ PsB w' w.heap.size n v d p true ha hp x a s sc ho ∧ Below w.heap.size w w') (first | assumption)
        (first | (go_at_call 159; refine (lowHere _).mono ?_; rintro e w' ⟨rfl, hb⟩; have hS := cellsKeep (by assumption) hb; clear hb) | (go_at_call 161; refine (textHere HOK.out _).mono ?_; rintro e w' ⟨rfl, hb⟩; rw [← HDN.out, HE.out]; have hS := cellsKeep (by assumption) hb; clear hb) | (go_at_call 162; refine (specOf (x + 11644473600) _ (by omega) (by omega)).mono ?_; rintro e w' ⟨y0, m0, d0, h0, q0, s0, hdt, rfl, hb⟩; have HOK := Lib.hid (hdt.ok (by omega)); have HDN := Lib.hid (dateN_is hdt); have hS := cellsKeep (by assumption) hb; clear hb hdt))
      have HS5 := Lib.hid hS
      clear hS
      go_wp2_with fail
      go_meet
      exact ⟨rfl, HS5.out.2.2.2.2.2.2.2.2.2.2.2.2.1, HS5.out.2.2.2.2.2.2.2.2.2.2.2.2.2⟩
  case rest =>
    obtain ⟨rfl, P, B⟩ := hcut
    have P := Lib.hid P
    have B := Lib.hid B
    clear c0 c1 c2 c3 c4 c5 c6 c7 c8 c9 c10 c11
    obtain ⟨c0, c1, c2, c3, c4, c5, c6, c7, c8, c9, c10, c11⟩ := P.out.at
    obtain ⟨t1, ht1⟩ : ∃ t, addE (cat0 n v) he E = t := ⟨_, rfl⟩
    have zt1 : t1.size ≤ 300 := by rw [← ht1]; exact add_size1 zt0 zE
    rw [ht1]
    rw [ht1] at HSB
    clear ht1
    go_upto_if 22 with fail
    go_cut [3] (fun u wx => TxCut w (addA t1 ha G) n v d p he ha hp x a s sc ho u wx)
    case first =>
      cases ha with
      | false =>
        go_wp2_with fail
        go_meet
        exact ⟨rfl, P.out, B.out⟩
      | true =>
        go_wp2_with fail
        refine (digits_itoa a _ z6 z7).mono ?_
        rintro e w2 ⟨rfl, hb⟩
        rw [HG.out]
        have B2 := Lib.hid (B.out.trans (hb.mono B.out.size))
        have P2 := Lib.hid (P.out.stays hb)
        clear hb
        go_wp2_with fail
        go_meet
        exact ⟨rfl, P2.out, B2.out⟩
    case rest =>
      obtain ⟨rfl, P, B⟩ := hcut
      have P := Lib.hid P
      have B := Lib.hid B
      clear c0 c1 c2 c3 c4 c5 c6 c7 c8 c9 c10 c11
      obtain ⟨c0, c1, c2, c3, c4, c5, c6, c7, c8, c9, c10, c11⟩ := P.out.at
      obtain ⟨t2, ht2⟩ : ∃ t, addA t1 ha G = t := ⟨_, rfl⟩
      have zt2 : t2.size ≤ 350 := by rw [← ht2]; exact add_size2 zt1 zA
      rw [ht2]
      rw [ht2] at HSB
      clear ht2
      go_upto_region 6 with fail
      go_cut [37] (fun u wx => DotCut w (dotB d) n v d p he ha hp x a s sc ho u wx)
      case first =>
        cases ed : d.toList.isEmpty with
        | true =>
          have hdot := empty_dot (empty_size ed)
          go_wp2_with fail
          go_meet
          exact ⟨by rw [hdot], P.out, B.out⟩
        | false =>
          have hi1 := some_size ed
          cases g5 : (((d[0]'hi1).toNat : Int) == 46) with
          | true =>
            have hdot : dotB d = true := by unfold dotB; rw [headDot hi1]; exact g5
            go_wp2_with fail
            go_meet
            exact ⟨by rw [hdot], P.out, B.out⟩
          | false =>
            have hdot : dotB d = false := by unfold dotB; rw [headDot hi1]; exact g5
            go_wp2_with fail
            go_meet
            exact ⟨by rw [hdot], P.out, B.out⟩
      case rest =>
        obtain ⟨rfl, P, B⟩ := hcut
        have P := Lib.hid P
        have B := Lib.hid B
        clear c0 c1 c2 c3 c4 c5 c6 c7 c8 c9 c10 c11
        obtain ⟨c0, c1, c2, c3, c4, c5, c6, c7, c8, c9, c10, c11⟩ := P.out.at
        go_upto_if 37 with fail
        go_cut [3] (fun u wx => TxCut w (addD t2 d) n v d p he ha hp x a s sc ho u wx)
        case first =>
          cases g6 : dotB d with
          | true =>
            have hd0 : ¬ d.size = 0 := fun h0 => by rw [empty_dot h0] at g6; cases g6
            go_wp2_with fail
            go_meet
            exact ⟨by rw [addD, if_neg hd0, domT, g6, if_pos rfl, ← dot_text]; rfl, P.out, B.out⟩
          | false =>
            cases ed : d.toList.isEmpty with
            | true =>
              have hd0 := empty_size ed
              go_wp2_with fail
              go_meet
              exact ⟨by rw [addD, if_pos hd0], P.out, B.out⟩
            | false =>
              have hd0 : ¬ d.size = 0 := by have := some_size ed; omega
              go_wp2_with fail
              go_meet
              exact ⟨by rw [addD, if_neg hd0, domT, g6]; rfl, P.out, B.out⟩
        case rest =>
          obtain ⟨rfl, P, B⟩ := hcut
          have P := Lib.hid P
          have B := Lib.hid B
          clear c0 c1 c2 c3 c4 c5 c6 c7 c8 c9 c10 c11
          obtain ⟨c0, c1, c2, c3, c4, c5, c6, c7, c8, c9, c10, c11⟩ := P.out.at
          obtain ⟨t3, ht3⟩ : ∃ t, addD t2 d = t := ⟨_, rfl⟩
          have zt3 : t3.size ≤ 450 := by rw [← ht3]; exact add_size3 zt2 z2
          rw [ht3]
          rw [ht3] at HSB
          clear ht3
          go_upto_if 52 with fail
          go_cut [3] (fun u wx => TxCut w (addP t3 hp p) n v d p he ha hp x a s sc ho u wx)
          case first =>
            cases hp with
            | false =>
              go_wp2_with fail
              go_meet
              exact ⟨rfl, P.out, B.out⟩
            | true =>
              go_wp2_with fail
              go_meet
              exact ⟨rfl, P.out, B.out⟩
          case rest =>
            obtain ⟨rfl, P, B⟩ := hcut
            have P := Lib.hid P
            have B := Lib.hid B
            clear c0 c1 c2 c3 c4 c5 c6 c7 c8 c9 c10 c11
            obtain ⟨c0, c1, c2, c3, c4, c5, c6, c7, c8, c9, c10, c11⟩ := P.out.at
            obtain ⟨t4, ht4⟩ : ∃ t, addP t3 hp p = t := ⟨_, rfl⟩
            have zt4 : t4.size ≤ 550 := by rw [← ht4]; exact add_size4 zt3 z3
            rw [ht4]
            rw [ht4] at HSB
            clear ht4
            go_upto_if 59 with fail
            go_cut [3] (fun u wx => TxCut w (addS t4 sc) n v d p he ha hp x a s sc ho u wx)
            case first =>
              cases sc with
              | false =>
                go_wp2_with fail
                go_meet
                exact ⟨rfl, P.out, B.out⟩
              | true =>
                go_wp2_with fail
                go_meet
                exact ⟨rfl, P.out, B.out⟩
            case rest =>
              obtain ⟨rfl, P, B⟩ := hcut
              have P := Lib.hid P
              have B := Lib.hid B
              clear c0 c1 c2 c3 c4 c5 c6 c7 c8 c9 c10 c11
              obtain ⟨c0, c1, c2, c3, c4, c5, c6, c7, c8, c9, c10, c11⟩ := P.out.at
              obtain ⟨t5, ht5⟩ : ∃ t, addS t4 sc = t := ⟨_, rfl⟩
              have zt5 : t5.size ≤ 560 := by rw [← ht5]; exact add_size5 zt4
              rw [ht5]
              rw [ht5] at HSB
              clear ht5
              go_upto_if 63 with fail
              go_cut [3] (fun u wx => TxCut w (addH t5 ho) n v d p he ha hp x a s sc ho u wx)
              case first =>
                cases ho with
                | false =>
                  go_wp2_with fail
                  go_meet
                  exact ⟨rfl, P.out, B.out⟩
                | true =>
                  go_wp2_with fail
                  go_meet
                  exact ⟨rfl, P.out, B.out⟩
              case rest =>
                obtain ⟨rfl, P, B⟩ := hcut
                have P := Lib.hid P
                have B := Lib.hid B
                clear c0 c1 c2 c3 c4 c5 c6 c7 c8 c9 c10 c11
                obtain ⟨c0, c1, c2, c3, c4, c5, c6, c7, c8, c9, c10, c11⟩ := P.out.at
                obtain ⟨t6, ht6⟩ : ∃ t, addH t5 ho = t := ⟨_, rfl⟩
                have zt6 : t6.size ≤ 580 := by rw [← ht6]; exact add_size6 zt5
                rw [ht6]
                rw [ht6] at HSB
                clear ht6
                go_upto_if 68 with fail
                go_cut [3] (fun u wx => TxCut w (addT t6 s) n v d p he ha hp x a s sc ho u wx)
                case first =>
                  rcases (show s = 1 ∨ s = 2 ∨ s = 3 ∨ s = 4 by omega) with rfl | rfl | rfl | rfl
                  · have a1 := add_text tSame ⟨#[78, 111, 110, 101]⟩ (by decide)
                    have a2 := add_text t6 (tSame ++ ⟨#[78, 111, 110, 101]⟩) (by rw [ByteArray.size_append]; show _ + (11 + 4) ≤ _; omega)
                    unfold tSame at a1 a2
                    have hS0 := cellsDrew P.out B.out
                    clear c0 c1 c2 c3 c4 c5 c6 c7 c8 c9 c10 c11
                    go_wp2_with fail
                    obtain ⟨f0, f1, f2, f3, f4, f5, f6, f7, f8, f9, f10, f11, _, _⟩ := hS0
                    go_region_with (first | (go_at_call 164; refine (sitesHere _).mono ?_; rintro e w' ⟨g, rfl, ⟨k0, k1, k2⟩, hb⟩; have hS := cellsKeep (cellsDrew P.out B.out) hb; have HS5 := Lib.hid hS; obtain ⟨e0, e1, e2, e3, e4, e5, e6, e7, e8, e9, e10, e11, _, _⟩ := hS; clear hb))
                    all_goals
                      go_wp2_with fail
                      go_meet
                      exact ⟨rfl, HS5.out.2.2.2.2.2.2.2.2.2.2.2.2.1, HS5.out.2.2.2.2.2.2.2.2.2.2.2.2.2⟩
                  · have a1 := add_text tSame ⟨#[76, 97, 120]⟩ (by decide)
                    have a2 := add_text t6 (tSame ++ ⟨#[76, 97, 120]⟩) (by rw [ByteArray.size_append]; show _ + (11 + 3) ≤ _; omega)
                    unfold tSame at a1 a2
                    have hS0 := cellsDrew P.out B.out
                    clear c0 c1 c2 c3 c4 c5 c6 c7 c8 c9 c10 c11
                    go_wp2_with fail
                    obtain ⟨f0, f1, f2, f3, f4, f5, f6, f7, f8, f9, f10, f11, _, _⟩ := hS0
                    go_region_with (first | (go_at_call 164; refine (sitesHere _).mono ?_; rintro e w' ⟨g, rfl, ⟨k0, k1, k2⟩, hb⟩; have hS := cellsKeep (cellsDrew P.out B.out) hb; have HS5 := Lib.hid hS; obtain ⟨e0, e1, e2, e3, e4, e5, e6, e7, e8, e9, e10, e11, _, _⟩ := hS; clear hb))
                    all_goals
                      go_wp2_with fail
                      go_meet
                      exact ⟨rfl, HS5.out.2.2.2.2.2.2.2.2.2.2.2.2.1, HS5.out.2.2.2.2.2.2.2.2.2.2.2.2.2⟩
                  · have a1 := add_text tSame ⟨#[83, 116, 114, 105, 99, 116]⟩ (by decide)
                    have a2 := add_text t6 (tSame ++ ⟨#[83, 116, 114, 105, 99, 116]⟩) (by rw [ByteArray.size_append]; show _ + (11 + 6) ≤ _; omega)
                    unfold tSame at a1 a2
                    have hS0 := cellsDrew P.out B.out
                    clear c0 c1 c2 c3 c4 c5 c6 c7 c8 c9 c10 c11
                    go_wp2_with fail
                    obtain ⟨f0, f1, f2, f3, f4, f5, f6, f7, f8, f9, f10, f11, _, _⟩ := hS0
                    go_region_with (first | (go_at_call 164; refine (sitesHere _).mono ?_; rintro e w' ⟨g, rfl, ⟨k0, k1, k2⟩, hb⟩; have hS := cellsKeep (cellsDrew P.out B.out) hb; have HS5 := Lib.hid hS; obtain ⟨e0, e1, e2, e3, e4, e5, e6, e7, e8, e9, e10, e11, _, _⟩ := hS; clear hb))
                    all_goals
                      go_wp2_with fail
                      go_meet
                      exact ⟨rfl, HS5.out.2.2.2.2.2.2.2.2.2.2.2.2.1, HS5.out.2.2.2.2.2.2.2.2.2.2.2.2.2⟩
                  · go_wp2_with fail
                    go_meet
                    exact ⟨rfl, P.out, B.out⟩
                case rest =>
                  obtain ⟨rfl, P, B⟩ := hcut
                  have P := Lib.hid P
                  have B := Lib.hid B
                  clear c0 c1 c2 c3 c4 c5 c6 c7 c8 c9 c10 c11
                  obtain ⟨c0, c1, c2, c3, c4, c5, c6, c7, c8, c9, c10, c11⟩ := P.out.at
                  obtain ⟨t7, ht7⟩ : ∃ t, addT t6 s = t := ⟨_, rfl⟩
                  have zt7 : t7.size ≤ 620 := by rw [← ht7]; exact add_size7 zt6
                  rw [ht7]
                  rw [ht7] at HSB
                  clear ht7
                  go_wp2_with fail
                  go_ret
                  exact ⟨by rw [HSB.out]; rfl, B.out⟩
end Go.Proofs.YtpdonghdnaehhaaGreatDoor
