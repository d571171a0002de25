/- ParsedOK of the model: what it answers. No condition of its own. -/
import Derived.Test.YtpdonghdnaehhaaGreatDoorZGg
import Derived.Test.YtpdonghdnaehhaaGreatDoorZGi
import Derived.Test.YtpdonghdnaehhaaGreatDoorZGh
import Derived.Deep.DeepCutAuto
import Derived.Deep.RegionHeld3
import Derived.Deep.QuietTactic
import Derived.BigQuiet
namespace Go.Proofs.YtpdonghdnaehhaaGreatDoor
open Go.ChangeShapes Go.WideShapes Go.ChangeAt Go.WideMaps Go.WideElems Go.RowKit

theorem low_any (w : World) : Calls Tryz.prog 159 #[] w fun e w' => e = .returned (.int .i64 (-11644473600)) ∧ Below w.heap.size w w' := by
  go_enter Tryz.func159, Tryz.ntmps159
  go_wp2_with fail
  refine (specSecsL 1601 1 1 0 0 0 _ ok_first).mono ?_
  rintro e w1 ⟨rfl, hb⟩
  rw [secs_first]
  have HB := Lib.hid hb
  clear hb
  go_wp2_with fail
  go_ret
  exact ⟨rfl, HB.out⟩
theorem high_any (w : World) : Calls Tryz.prog 160 #[] w fun e w' => e = .returned (.int .i64 253402300799) ∧ Below w.heap.size w w' := by
  go_enter Tryz.func160, Tryz.ntmps160
  go_wp2_with fail
  refine (specSecsL 9999 12 31 0 0 0 _ ok_last).mono ?_
  rintro e w1 ⟨rfl, hb⟩
  rw [secs_last]
  have HB := Lib.hid hb
  clear hb
  go_wp2_with fail
  go_ret
  exact ⟨rfl, HB.out⟩
/-- What the model asks, part by part. -/
def ppB (p : ByteArray) : Bool := decide (p.size ≤ 60) && plainS p
def restB3 (p : ByteArray) (he ha hp : Bool) (x a : Int) : Bool := !((hp && !slashB p) || (!hp && !decide (p.size = 0)) || (!ha && !decide (a = 0)) || !inB a (-1000000000000) 1000000000000 || (!he && !decide (x = 0)))
theorem plain_none : plainS ⟨#[]⟩ = true := by decide +kernel
theorem empty_eq {p : ByteArray} (h : p.size = 0) : p = ⟨#[]⟩ := bytes_inj (by
  have : p.data.toList = [] := List.eq_nil_of_length_eq_zero (by simpa using h)
  rw [this])
theorem ok_parts (n v d p : ByteArray) (he ha hp : Bool) (x a s : Int) (sc ho : Bool) : psOK ⟨n, v, d, p, he, ha, hp, x, a, s, sc, ho⟩ = (pairOKB n v && (domOKB d && ppB p) && restB3 p he ha hp x a && (inB x (-11644473600) 253402300799 && inB s 1 4)) := by
  unfold psOK
  simp only
  cases pairOKB n v
  · rfl
  cases domOKB d
  · rfl
  have e1 : siteOKB s = inB s 1 4 := by
    unfold siteOKB inB
    by_cases h : 1 ≤ s <;> by_cases h2 : s ≤ 4 <;> simp [h, h2]
  have e2 : ageOKB a ha = (inB a (-1000000000000) 1000000000000 && (ha || decide (a = 0))) := by
    unfold ageOKB inB
    by_cases h : -1000000000000 ≤ a <;> by_cases h2 : a ≤ 1000000000000 <;> simp [h, h2]
  have e3 : expOKB x he = (inB x (-11644473600) 253402300799 && (he || decide (x = 0))) := rfl
  rw [e1, e2, e3]
  unfold pathOKB ppB restB3
  cases hp with
  | true =>
    simp only [if_true]
    cases decide (p.size ≤ 60) <;> cases slashB p <;> cases plainS p <;> cases inB a (-1000000000000) 1000000000000 <;> cases ha <;> cases decide (a = 0) <;> cases he <;> cases decide (x = 0) <;> cases inB x (-11644473600) 253402300799 <;> cases inB s 1 4 <;> rfl
  | false =>
    by_cases h0 : p.size = 0
    · have e := empty_eq h0
      subst e
      have q1 : decide ((⟨#[]⟩ : ByteArray).size ≤ 60) = true := by decide
      have q2 : decide ((⟨#[]⟩ : ByteArray).size = 0) = true := by decide
      rw [plain_none, q1, q2]
      cases inB a (-1000000000000) 1000000000000 <;> cases ha <;> cases decide (a = 0) <;> cases he <;> cases decide (x = 0) <;> cases inB x (-11644473600) 253402300799 <;> cases inB s 1 4 <;> rfl
    · rw [decide_eq_false h0]
      cases decide (p.size ≤ 60) <;> cases plainS p <;> rfl
theorem pair_bad1 {n v : ByteArray} (h : plainW n ⟨#[61, 59]⟩ = false) : pairOKB n v = false := by
  unfold pairOKB
  by_cases h1 : n.size + v.size ≤ 100
  · rw [plainW_two (by omega)] at h
    cases h2 : plainS n <;> cases h3 : allB n (noneB 61) <;> simp_all
  · simp [h1]
theorem pair_bad2 {n v : ByteArray} (h : plainW v ⟨#[59]⟩ = false) : pairOKB n v = false := by
  unfold pairOKB
  by_cases h1 : n.size + v.size ≤ 100
  · rw [plainW_one (by omega)] at h
    simp [h]
  · simp [h1]
theorem pair_good {n v : ByteArray} (h1 : plainW n ⟨#[61, 59]⟩ = true) (h2 : plainW v ⟨#[59]⟩ = true) (h3 : 0 < n.size + v.size) (h4 : n.size + v.size ≤ 100) : pairOKB n v = true := by
  rw [plainW_two (by omega)] at h1
  rw [plainW_one (by omega)] at h2
  rw [Bool.and_eq_true] at h1
  unfold pairOKB
  simp [h1, h2, h3, h4]
theorem dom_bad1 {d : ByteArray} (h : plainW d ⟨#[59]⟩ = false) : domOKB d = false := by
  unfold domOKB
  by_cases h1 : d.size ≤ 60
  · rw [plainW_one (by omega)] at h
    simp [h]
  · have : ¬ ((d.size : Int) ≤ (if dotB d then 59 else 60)) := by split <;> omega
    simp [this]
theorem dom_bad2 {d : ByteArray} (h : 60 < d.size) : domOKB d = false := by
  unfold domOKB
  have : ¬ ((d.size : Int) ≤ (if dotB d then 59 else 60)) := by split <;> omega
  simp [this]
theorem dom_bad3 {d : ByteArray} (h : ((foldB d).toList == d.toList) = false) : domOKB d = false := by
  unfold domOKB
  simp [h]
theorem dom_bad4 {d : ByteArray} (h : dotB d = true) (h2 : d.size = 60) : domOKB d = false := by
  unfold domOKB
  simp [h, h2]
theorem dom_good {d : ByteArray} (h1 : plainW d ⟨#[59]⟩ = true) (h2 : d.size ≤ 60) (h3 : ((foldB d).toList == d.toList) = true) (h4 : dotB d = true → d.size ≠ 60) : domOKB d = true := by
  rw [plainW_one (by omega)] at h1
  unfold domOKB
  have : ((d.size : Int) ≤ (if dotB d then 59 else 60)) := by
    split
    · rename_i h
      have := h4 h
      omega
    · omega
  simp only [h1, h3, decide_eq_true this, Bool.and_self]
theorem pp_bad {p : ByteArray} (h : plainW p ⟨#[59]⟩ = false) : ppB p = false := by
  unfold ppB
  by_cases h1 : p.size ≤ 60
  · rw [plainW_one (by omega)] at h
    simp [h]
  · simp [h1]
theorem pp_big {p : ByteArray} (h : 60 < p.size) : ppB p = false := by
  unfold ppB
  rw [decide_eq_false (by omega)]
  rfl
theorem pp_good {p : ByteArray} (h1 : p.size ≤ 60) (h : plainW p ⟨#[59]⟩ = true) : ppB p = true := by
  unfold ppB
  rw [plainW_one (by omega)] at h
  simp [h, h1]
theorem head_dot {d : ByteArray} (h0 : 0 < d.size) (c : UInt8) : (d.data.toList.head? == some c) = (((d[0]'h0).toNat : Int) == (c.toNat : Int)) := by
  have hl : 0 < d.data.toList.length := by simpa using h0
  have e : d.data.toList.head? = some (d[0]'h0) := by
    rw [List.head?_eq_getElem?, List.getElem?_eq_getElem hl]
    rfl
  rw [e]
  by_cases h : d[0]'h0 = c
  · rw [h]
    simp
  · have h2 : (((d[0]'h0).toNat : Int) == (c.toNat : Int)) = false := by
      rw [beq_eq_false_iff_ne]
      intro e2
      exact h (UInt8.toNat_inj.1 (by omega))
    rw [h2, beq_eq_false_iff_ne]
    simpa using h
theorem cells_drew {w wx : World} {n v d p : ByteArray} {he ha hp : Bool} {x a s : Int} {sc ho : Bool} (hp' : PsB wx w.heap.size n v d p he ha hp x a s sc ho) (hb : Below w.heap.size w wx) : wx.drew.cell? ⟨w.heap.size, 0, none⟩ = some (.string n) ∧ wx.drew.cell? ⟨w.heap.size, 1, none⟩ = some (.string v) ∧ wx.drew.cell? ⟨w.heap.size, 2, none⟩ = some (.string d) ∧ wx.drew.cell? ⟨w.heap.size, 3, none⟩ = some (.string p) ∧ wx.drew.cell? ⟨w.heap.size, 4, none⟩ = some (.bool he) ∧ wx.drew.cell? ⟨w.heap.size, 5, none⟩ = some (.bool ha) ∧ wx.drew.cell? ⟨w.heap.size, 6, none⟩ = some (.bool hp) ∧ wx.drew.cell? ⟨w.heap.size, 7, none⟩ = some (.int .i64 x) ∧ wx.drew.cell? ⟨w.heap.size, 8, none⟩ = some (.int .i64 a) ∧ wx.drew.cell? ⟨w.heap.size, 9, none⟩ = some (.int .i64 s) ∧ wx.drew.cell? ⟨w.heap.size, 10, none⟩ = some (.bool sc) ∧ wx.drew.cell? ⟨w.heap.size, 11, none⟩ = some (.bool ho) ∧ PsB wx.drew w.heap.size n v d p he ha hp x a s sc ho ∧ Below w.heap.size w wx.drew := by
  obtain ⟨c0, c1, c2, c3, c4, c5, c6, c7, c8, c9, c10, c11⟩ := hp'.at
  exact ⟨c0, c1, c2, c3, c4, c5, c6, c7, c8, c9, c10, c11, hp', hb.drew⟩
theorem cells_keep {w wx wy : World} {n v d p : ByteArray} {he ha hp : Bool} {x a s : Int} {sc ho : Bool} (h : wx.cell? ⟨w.heap.size, 0, none⟩ = some (.string n) ∧ wx.cell? ⟨w.heap.size, 1, none⟩ = some (.string v) ∧ wx.cell? ⟨w.heap.size, 2, none⟩ = some (.string d) ∧ wx.cell? ⟨w.heap.size, 3, none⟩ = some (.string p) ∧ wx.cell? ⟨w.heap.size, 4, none⟩ = some (.bool he) ∧ wx.cell? ⟨w.heap.size, 5, none⟩ = some (.bool ha) ∧ wx.cell? ⟨w.heap.size, 6, none⟩ = some (.bool hp) ∧ wx.cell? ⟨w.heap.size, 7, none⟩ = some (.int .i64 x) ∧ wx.cell? ⟨w.heap.size, 8, none⟩ = some (.int .i64 a) ∧ wx.cell? ⟨w.heap.size, 9, none⟩ = some (.int .i64 s) ∧ wx.cell? ⟨w.heap.size, 10, none⟩ = some (.bool sc) ∧ wx.cell? ⟨w.heap.size, 11, none⟩ = some (.bool ho) ∧ PsB wx w.heap.size n v d p he ha hp x a s sc ho ∧ Below w.heap.size w wx) (hb : Below wx.heap.size wx wy) : wy.cell? ⟨w.heap.size, 0, none⟩ = some (.string n) ∧ wy.cell? ⟨w.heap.size, 1, none⟩ = some (.string v) ∧ wy.cell? ⟨w.heap.size, 2, none⟩ = some (.string d) ∧ wy.cell? ⟨w.heap.size, 3, none⟩ = some (.string p) ∧ wy.cell? ⟨w.heap.size, 4, none⟩ = some (.bool he) ∧ wy.cell? ⟨w.heap.size, 5, none⟩ = some (.bool ha) ∧ wy.cell? ⟨w.heap.size, 6, none⟩ = some (.bool hp) ∧ wy.cell? ⟨w.heap.size, 7, none⟩ = some (.int .i64 x) ∧ wy.cell? ⟨w.heap.size, 8, none⟩ = some (.int .i64 a) ∧ wy.cell? ⟨w.heap.size, 9, none⟩ = some (.int .i64 s) ∧ wy.cell? ⟨w.heap.size, 10, none⟩ = some (.bool sc) ∧ wy.cell? ⟨w.heap.size, 11, none⟩ = some (.bool ho) ∧ PsB wy w.heap.size n v d p he ha hp x a s sc ho ∧ Below w.heap.size w wy := by
  obtain ⟨_, _, _, _, _, _, _, _, _, _, _, _, h1, h2⟩ := h
  have h3 := h1.stays hb
  obtain ⟨c0, c1, c2, c3, c4, c5, c6, c7, c8, c9, c10, c11⟩ := h3.at
  exact ⟨c0, c1, c2, c3, c4, c5, c6, c7, c8, c9, c10, c11, h3, h2.trans (hb.mono h2.size)⟩
def OKCut (w : World) (b : Bool) (n v d p : ByteArray) (he ha hp : Bool) (x a s : Int) (sc ho : Bool) (u : Value) (wx : World) : Prop := u = .bool b ∧ PsB wx w.heap.size n v d p he ha hp x a s sc ho ∧ Below w.heap.size w wx
set_option maxHeartbeats 60000000 in
set_option maxRecDepth 100000 in
theorem specOKL (n v d p : ByteArray) (he ha hp : Bool) (x a s : Int) (sc ho : Bool) (w : World) (hn : n.size ≤ 1048576) (hv : v.size ≤ 1048576) (hd : d.size ≤ 1048576) (hpp : p.size ≤ 1048576) :
    Calls Tryz.prog 69 #[.agg #[.string n, .string v, .string d, .string p, .bool he, .bool ha, .bool hp, .int .i64 x, .int .i64 a, .int .i64 s, .bool sc, .bool ho]] w fun e w' => e = .returned (.bool (psOK ⟨n, v, d, p, he, ha, hp, x, a, s, sc, ho⟩)) ∧ Below w.heap.size w w' := by
  have HE : Hid (∀ b, (pairOKB n v && (domOKB d && ppB p) && restB3 p he ha hp x a && (inB x (-11644473600) 253402300799 && inB s 1 4)) = b → psOK ⟨n, v, d, p, he, ha, hp, x, a, s, sc, ho⟩ = b) := Lib.hid fun b h => by rw [ok_parts]; exact h
  have B0 := Lib.hid ((Below.refl w.heap.size w).alloc (Nat.le_refl _) (.cells #[.string n, .string v, .string d, .string p, .bool he, .bool ha, .bool hp, .int .i64 x, .int .i64 a, .int .i64 s, .bool sc, .bool ho] 24))
  have P0 := Lib.hid (PsB.new w n v d p he ha hp x a s sc ho)
  go_enter Tryz.func69, Tryz.ntmps69
  go_upto_region 1 with fail
  go_cut [32] (fun u wx => OKCut w (!pairOKB n v) n v d p he ha hp x a s sc ho u wx)
  case first =>
    cases g1 : plainW n ⟨#[61, 59]⟩ with
    | false =>
      have G1 := Lib.hid (pair_bad1 (v := v) g1)
      go_wp2_with fail
      refine (specPlain n ⟨#[61, 59]⟩ _ hn (by decide)).mono ?_
      rintro e w' ⟨rfl, rfl⟩
      rw [g1]
      clear g1
      go_wp2_with fail
      go_meet
      exact ⟨by rw [G1.out]; rfl, P0.out, B0.out⟩
    | true =>
      have G1 := Lib.hid g1
      go_wp2_with fail
      refine (specPlain n ⟨#[61, 59]⟩ _ hn (by decide)).mono ?_
      rintro e w' ⟨rfl, rfl⟩
      rw [g1]
      clear g1
      obtain ⟨c0, c1, c2, c3, c4, c5, c6, c7, c8, c9, c10, c11⟩ := P0.out.at
      cases g2 : plainW v ⟨#[59]⟩ with
      | false =>
        have G2 := Lib.hid (pair_bad2 (n := n) g2)
        go_wp2_with fail
        refine (specPlain v ⟨#[59]⟩ _ hv (by decide)).mono ?_
        rintro e w' ⟨rfl, rfl⟩
        rw [g2]
        clear g2
        go_wp2_with fail
        go_meet
        exact ⟨by rw [G2.out]; rfl, P0.out, B0.out⟩
      | true =>
        have G2 := Lib.hid g2
        go_wp2_with fail
        refine (specPlain v ⟨#[59]⟩ _ hv (by decide)).mono ?_
        rintro e w' ⟨rfl, rfl⟩
        rw [g2]
        clear g2
        cases en : n.toList.isEmpty with
        | true =>
          have hn0 := empty_size en
          cases ev : v.toList.isEmpty with
          | true =>
            have hv0 := empty_size ev
            have HG : Hid (pairOKB n v = false) := Lib.hid (by simp [pairOKB, hn0, hv0])
            go_wp2_with fail
            go_meet
            exact ⟨by rw [HG.out]; rfl, P0.out, B0.out⟩
          | false =>
            have hv0 := some_size ev
            by_cases h4 : n.size + v.size ≤ 100
            · have h4i : (n.size : Int) + v.size ≤ 100 := by omega
              have HG := Lib.hid (pair_good G1.out G2.out (by omega) h4)
              go_wp2_with fail
              go_meet
              exact ⟨by rw [HG.out]; first | rfl | (simp; omega), P0.out, B0.out⟩
            · have h4i : (100 : Int) < (n.size : Int) + v.size := by omega
              have HG : Hid (pairOKB n v = false) := Lib.hid (by simp [pairOKB, h4])
              go_wp2_with fail
              go_meet
              exact ⟨by rw [HG.out]; first | rfl | (simp; omega), P0.out, B0.out⟩
        | false =>
          have hn0 := some_size en
          by_cases h4 : n.size + v.size ≤ 100
          · have h4i : (n.size : Int) + v.size ≤ 100 := by omega
            have HG := Lib.hid (pair_good G1.out G2.out (by omega) h4)
            go_wp2_with fail
            go_meet
            exact ⟨by rw [HG.out]; first | rfl | (simp; omega), P0.out, B0.out⟩
          · have h4i : (100 : Int) < (n.size : Int) + v.size := by omega
            have HG : Hid (pairOKB n v = false) := Lib.hid (by simp [pairOKB, h4])
            go_wp2_with fail
            go_meet
            exact ⟨by rw [HG.out]; first | rfl | (simp; omega), P0.out, B0.out⟩
  case rest =>
    rename_i wc
    obtain ⟨rfl, P1, B1⟩ := hcut
    have P1 := Lib.hid P1
    have B1 := Lib.hid B1
    clear P0 B0
    cases gP : pairOKB n v with
    | false =>
      have HF := Lib.hid (HE.out false (by rw [gP]; rfl))
      go_wp2_with fail
      go_ret
      exact ⟨by rw [HF.out]; rfl, B1.out⟩
    | true =>
      have GP := Lib.hid gP
      clear gP
      go_upto_region 3 with fail
      go_cut [74] (fun u wx => OKCut w (!(domOKB d && ppB p)) n v d p he ha hp x a s sc ho u wx)
      case first =>
        as_aux_lemma =>
          have A1 : Hid (∀ W : World, Calls Tryz.prog 157 #[.string d, .string ⟨#[59]⟩] W fun e w' => e = .returned (.bool (plainW d ⟨#[59]⟩)) ∧ W = w') := Lib.hid fun W => specPlain d ⟨#[59]⟩ W hd (by decide)
          have A2 : Hid (∀ W : World, Calls Tryz.prog 157 #[.string p, .string ⟨#[59]⟩] W fun e w' => e = .returned (.bool (plainW p ⟨#[59]⟩)) ∧ W = w') := Lib.hid fun W => specPlain p ⟨#[59]⟩ W hpp (by decide)
          have hN : Nonempty (Cls w w.heap.size n v d p he ha hp x a s sc ho) := Cls.full P1.out B1.out
          have q0 := Cls.at0 w w.heap.size n v d p he ha hp x a s sc ho
          have q1 := Cls.at1 w w.heap.size n v d p he ha hp x a s sc ho
          have q2 := Cls.at2 w w.heap.size n v d p he ha hp x a s sc ho
          have q3 := Cls.at3 w w.heap.size n v d p he ha hp x a s sc ho
          have q4 := Cls.at4 w w.heap.size n v d p he ha hp x a s sc ho
          have q5 := Cls.at5 w w.heap.size n v d p he ha hp x a s sc ho
          have q6 := Cls.at6 w w.heap.size n v d p he ha hp x a s sc ho
          have q7 := Cls.at7 w w.heap.size n v d p he ha hp x a s sc ho
          have q8 := Cls.at8 w w.heap.size n v d p he ha hp x a s sc ho
          have q9 := Cls.at9 w w.heap.size n v d p he ha hp x a s sc ho
          have q10 := Cls.at10 w w.heap.size n v d p he ha hp x a s sc ho
          have q11 := Cls.at11 w w.heap.size n v d p he ha hp x a s sc ho
          cases g3 : plainW d ⟨#[59]⟩ with
          | false =>
            have G3 := Lib.hid (dom_bad1 g3)
            refine wp_region_class (fun w' => ∃ i : Cls w w.heap.size n v d p he ha hp x a s sc ho, w' = i.w) (by kernel_rfl) (by kernel_rfl) (Cls.start P1.out B1.out) ?_
            repeat (go_big_quiet_step (first | (go_at_call 157; rename_i i; with_reducible refine (A1.out i.w).mono ?_; intro e w' h; exact ⟨by rw [h.1, g3], i.same h.2⟩)))
            refine wpQuiet_nil ?_
            intro _ hw'
            obtain ⟨i, rfl⟩ := hw'
            clear q0 q1 q2 q3 q4 q5 q6 q7 q8 q9 q10 q11
            go_wp2_with fail
            go_meet
            exact ⟨by rw [G3.out]; rfl, i.ps, i.below⟩
          | true =>
            have G3 := Lib.hid g3
            by_cases h60 : d.size ≤ 60
            · have h60i : (d.size : Int) ≤ 60 := by omega
              have hd60 : decide ((60 : Int) < (d.size : Int)) = false := decide_eq_false (by omega)
              have A3 : Hid (∀ W : World, Calls Tryz.prog 158 #[.string d] W fun e w' => e = .returned (.string (foldB d)) ∧ Below W.heap.size W w') := Lib.hid fun W => by
                have h := specFoldL d W (by omega)
                rw [show foldL d.data.toList = foldB d by rw [foldB, if_pos (by omega)]] at h
                exact h
              cases g4 : ((foldB d).toList == d.toList) with
              | false =>
                have n4 : ((foldB d).toList != d.toList) = true := by rw [bne, g4]; rfl
                have G4 := Lib.hid (dom_bad3 g4)
                refine wp_region_class (fun w' => ∃ i : Cls w w.heap.size n v d p he ha hp x a s sc ho, w' = i.w) (by kernel_rfl) (by kernel_rfl) (Cls.start P1.out B1.out) ?_
                repeat (go_big_quiet_step (first | (go_at_call 157; rename_i i; with_reducible refine (A1.out i.w).mono ?_; intro e w' h; exact ⟨by rw [h.1, g3], i.same h.2⟩) | (go_at_call 158; rename_i i; exact (A3.out i.w).mono fun e w' h => ⟨h.1, i.next h.2⟩)))
                refine wpQuiet_nil ?_
                intro _ hw'
                obtain ⟨i, rfl⟩ := hw'
                clear q0 q1 q2 q3 q4 q5 q6 q7 q8 q9 q10 q11
                go_wp2_with fail
                go_meet
                exact ⟨by rw [G4.out]; rfl, i.ps, i.below⟩
              | true =>
                have n4 : ((foldB d).toList != d.toList) = false := by rw [bne, g4]; rfl
                have G4 := Lib.hid g4
                by_cases hd6 : d.size = 60
                · have hdi : ((d.size : Int) == 60) = true := by rw [beq_iff_eq]; omega
                  have hi0 : (0 : Int) < (d.size : Int) := by omega
                  have hi1 : 0 < d.size := by omega
                  cases g5 : (((d[0]'hi1).toNat : Int) == 46) with
                  | true =>
                    have hdot : dotB d = true := by unfold dotB; rw [head_dot hi1]; exact g5
                    have G5 := Lib.hid (dom_bad4 hdot hd6)
                    refine wp_region_class (fun w' => ∃ i : Cls w w.heap.size n v d p he ha hp x a s sc ho, w' = i.w) (by kernel_rfl) (by kernel_rfl) (Cls.start P1.out B1.out) ?_
                    repeat (go_big_quiet_step (first | (go_at_call 157; rename_i i; with_reducible refine (A1.out i.w).mono ?_; intro e w' h; exact ⟨by rw [h.1, g3], i.same h.2⟩) | (go_at_call 158; rename_i i; exact (A3.out i.w).mono fun e w' h => ⟨h.1, i.next h.2⟩)))
                    refine wpQuiet_nil ?_
                    intro _ hw'
                    obtain ⟨i, rfl⟩ := hw'
                    clear q0 q1 q2 q3 q4 q5 q6 q7 q8 q9 q10 q11
                    go_wp2_with fail
                    go_meet
                    exact ⟨by rw [G5.out]; rfl, i.ps, i.below⟩
                  | false =>
                    have hdot : dotB d = false := by unfold dotB; rw [head_dot hi1]; exact g5
                    have GD := Lib.hid (dom_good G3.out h60 G4.out (fun h => by rw [hdot] at h; cases h))
                    cases g6 : plainW p ⟨#[59]⟩ with
                    | false =>
                      have GP2 : Hid (ppB p = false) := Lib.hid (pp_bad g6)
                      refine wp_region_class (fun w' => ∃ i : Cls w w.heap.size n v d p he ha hp x a s sc ho, w' = i.w) (by kernel_rfl) (by kernel_rfl) (Cls.start P1.out B1.out) ?_
                      repeat (go_big_quiet_step (first | (go_at_call 157; rename_i i; with_reducible refine (A1.out i.w).mono ?_; intro e w' h; exact ⟨by rw [h.1, g3], i.same h.2⟩) | (go_at_call 158; rename_i i; exact (A3.out i.w).mono fun e w' h => ⟨h.1, i.next h.2⟩) | (go_at_call 157; rename_i i; with_reducible refine (A2.out i.w).mono ?_; intro e w' h; exact ⟨by rw [h.1, g6], i.same h.2⟩)))
                      refine wpQuiet_nil ?_
                      intro _ hw'
                      obtain ⟨i, rfl⟩ := hw'
                      clear q0 q1 q2 q3 q4 q5 q6 q7 q8 q9 q10 q11
                      go_wp2_with fail
                      go_meet
                      exact ⟨by rw [GP2.out]; simp, i.ps, i.below⟩
                    | true =>
                      have G6 := Lib.hid g6
                      by_cases hp60 : p.size ≤ 60
                      · have hp60d : decide ((60 : Int) < (p.size : Int)) = false := decide_eq_false (by omega)
                        have GP2 : Hid (ppB p = true) := Lib.hid (pp_good hp60 g6)
                        refine wp_region_class (fun w' => ∃ i : Cls w w.heap.size n v d p he ha hp x a s sc ho, w' = i.w) (by kernel_rfl) (by kernel_rfl) (Cls.start P1.out B1.out) ?_
                        repeat (go_big_quiet_step (first | (go_at_call 157; rename_i i; with_reducible refine (A1.out i.w).mono ?_; intro e w' h; exact ⟨by rw [h.1, g3], i.same h.2⟩) | (go_at_call 158; rename_i i; exact (A3.out i.w).mono fun e w' h => ⟨h.1, i.next h.2⟩) | (go_at_call 157; rename_i i; with_reducible refine (A2.out i.w).mono ?_; intro e w' h; exact ⟨by rw [h.1, g6], i.same h.2⟩)))
                        refine wpQuiet_nil ?_
                        intro _ hw'
                        obtain ⟨i, rfl⟩ := hw'
                        clear q0 q1 q2 q3 q4 q5 q6 q7 q8 q9 q10 q11
                        go_wp2_with fail
                        go_meet
                        exact ⟨by rw [GD.out, GP2.out]; try first | rfl | (simp; omega), i.ps, i.below⟩
                      · have hp60d : decide ((60 : Int) < (p.size : Int)) = true := decide_eq_true (by omega)
                        have GP2 : Hid (ppB p = false) := Lib.hid (pp_big (by omega))
                        refine wp_region_class (fun w' => ∃ i : Cls w w.heap.size n v d p he ha hp x a s sc ho, w' = i.w) (by kernel_rfl) (by kernel_rfl) (Cls.start P1.out B1.out) ?_
                        repeat (go_big_quiet_step (first | (go_at_call 157; rename_i i; with_reducible refine (A1.out i.w).mono ?_; intro e w' h; exact ⟨by rw [h.1, g3], i.same h.2⟩) | (go_at_call 158; rename_i i; exact (A3.out i.w).mono fun e w' h => ⟨h.1, i.next h.2⟩) | (go_at_call 157; rename_i i; with_reducible refine (A2.out i.w).mono ?_; intro e w' h; exact ⟨by rw [h.1, g6], i.same h.2⟩)))
                        refine wpQuiet_nil ?_
                        intro _ hw'
                        obtain ⟨i, rfl⟩ := hw'
                        clear q0 q1 q2 q3 q4 q5 q6 q7 q8 q9 q10 q11
                        go_wp2_with fail
                        go_meet
                        exact ⟨by first | (rw [GP2.out]; simp; done) | (simp [GP2.out]; done) | (simp [GP2.out]; omega) | (rw [GP2.out]; rfl), i.ps, i.below⟩
                · have hdi : ((d.size : Int) == 60) = false := by rw [beq_eq_false_iff_ne]; omega
                  have GD := Lib.hid (dom_good G3.out h60 G4.out (fun _ => hd6))
                  cases g6 : plainW p ⟨#[59]⟩ with
                  | false =>
                    have GP2 : Hid (ppB p = false) := Lib.hid (pp_bad g6)
                    refine wp_region_class (fun w' => ∃ i : Cls w w.heap.size n v d p he ha hp x a s sc ho, w' = i.w) (by kernel_rfl) (by kernel_rfl) (Cls.start P1.out B1.out) ?_
                    repeat (go_big_quiet_step (first | (go_at_call 157; rename_i i; with_reducible refine (A1.out i.w).mono ?_; intro e w' h; exact ⟨by rw [h.1, g3], i.same h.2⟩) | (go_at_call 158; rename_i i; exact (A3.out i.w).mono fun e w' h => ⟨h.1, i.next h.2⟩) | (go_at_call 157; rename_i i; with_reducible refine (A2.out i.w).mono ?_; intro e w' h; exact ⟨by rw [h.1, g6], i.same h.2⟩)))
                    refine wpQuiet_nil ?_
                    intro _ hw'
                    obtain ⟨i, rfl⟩ := hw'
                    clear q0 q1 q2 q3 q4 q5 q6 q7 q8 q9 q10 q11
                    go_wp2_with fail
                    go_meet
                    exact ⟨by rw [GP2.out]; simp, i.ps, i.below⟩
                  | true =>
                    have G6 := Lib.hid g6
                    by_cases hp60 : p.size ≤ 60
                    · have hp60d : decide ((60 : Int) < (p.size : Int)) = false := decide_eq_false (by omega)
                      have GP2 : Hid (ppB p = true) := Lib.hid (pp_good hp60 g6)
                      refine wp_region_class (fun w' => ∃ i : Cls w w.heap.size n v d p he ha hp x a s sc ho, w' = i.w) (by kernel_rfl) (by kernel_rfl) (Cls.start P1.out B1.out) ?_
                      repeat (go_big_quiet_step (first | (go_at_call 157; rename_i i; with_reducible refine (A1.out i.w).mono ?_; intro e w' h; exact ⟨by rw [h.1, g3], i.same h.2⟩) | (go_at_call 158; rename_i i; exact (A3.out i.w).mono fun e w' h => ⟨h.1, i.next h.2⟩) | (go_at_call 157; rename_i i; with_reducible refine (A2.out i.w).mono ?_; intro e w' h; exact ⟨by rw [h.1, g6], i.same h.2⟩)))
                      refine wpQuiet_nil ?_
                      intro _ hw'
                      obtain ⟨i, rfl⟩ := hw'
                      clear q0 q1 q2 q3 q4 q5 q6 q7 q8 q9 q10 q11
                      go_wp2_with fail
                      go_meet
                      exact ⟨by rw [GD.out, GP2.out]; try first | rfl | (simp; omega), i.ps, i.below⟩
                    · have hp60d : decide ((60 : Int) < (p.size : Int)) = true := decide_eq_true (by omega)
                      have GP2 : Hid (ppB p = false) := Lib.hid (pp_big (by omega))
                      refine wp_region_class (fun w' => ∃ i : Cls w w.heap.size n v d p he ha hp x a s sc ho, w' = i.w) (by kernel_rfl) (by kernel_rfl) (Cls.start P1.out B1.out) ?_
                      repeat (go_big_quiet_step (first | (go_at_call 157; rename_i i; with_reducible refine (A1.out i.w).mono ?_; intro e w' h; exact ⟨by rw [h.1, g3], i.same h.2⟩) | (go_at_call 158; rename_i i; exact (A3.out i.w).mono fun e w' h => ⟨h.1, i.next h.2⟩) | (go_at_call 157; rename_i i; with_reducible refine (A2.out i.w).mono ?_; intro e w' h; exact ⟨by rw [h.1, g6], i.same h.2⟩)))
                      refine wpQuiet_nil ?_
                      intro _ hw'
                      obtain ⟨i, rfl⟩ := hw'
                      clear q0 q1 q2 q3 q4 q5 q6 q7 q8 q9 q10 q11
                      go_wp2_with fail
                      go_meet
                      exact ⟨by first | (rw [GP2.out]; simp; done) | (simp [GP2.out]; done) | (simp [GP2.out]; omega) | (rw [GP2.out]; rfl), i.ps, i.below⟩
            · have h60i : (60 : Int) < d.size := by omega
              have G3 := Lib.hid (dom_bad2 (d := d) (by omega))
              refine wp_region_class (fun w' => ∃ i : Cls w w.heap.size n v d p he ha hp x a s sc ho, w' = i.w) (by kernel_rfl) (by kernel_rfl) (Cls.start P1.out B1.out) ?_
              repeat (go_big_quiet_step (first | (go_at_call 157; rename_i i; with_reducible refine (A1.out i.w).mono ?_; intro e w' h; exact ⟨by rw [h.1, g3], i.same h.2⟩)))
              refine wpQuiet_nil ?_
              intro _ hw'
              obtain ⟨i, rfl⟩ := hw'
              clear q0 q1 q2 q3 q4 q5 q6 q7 q8 q9 q10 q11
              go_wp2_with fail
              go_meet
              exact ⟨by rw [G3.out]; rfl, i.ps, i.below⟩
      case rest =>
        obtain ⟨rfl, P2, B2⟩ := hcut
        have P2 := Lib.hid P2
        have B2 := Lib.hid B2
        clear P1 B1
        cases gD : (domOKB d && ppB p) with
        | false =>
          have HF := Lib.hid (HE.out false (by rw [GP.out, gD]; rfl))
          go_wp2_with fail
          go_ret
          exact ⟨by rw [HF.out]; rfl, B2.out⟩
        | true =>
          have GD := Lib.hid gD
          clear gD
          go_upto_region 5 with fail
          go_cut [123] (fun u wx => OKCut w (!restB3 p he ha hp x a) n v d p he ha hp x a s sc ho u wx)
          case first =>
            as_aux_lemma =>
              obtain ⟨c0, c1, c2, c3, c4, c5, c6, c7, c8, c9, c10, c11⟩ := P2.out.at
              cases hp with
              | true =>
                cases ep : p.toList.isEmpty with
                | true =>
                  have hsl : slashB p = false := by rw [empty_eq (empty_size ep)]; rfl
                  have HR : Hid (restB3 p he ha true x a = false) := Lib.hid (by simp [restB3, hsl])
                  go_wp2_with fail
                  go_meet
                  exact ⟨by rw [HR.out]; rfl, P2.out, B2.out⟩
                | false =>
                  have hp0 := some_size ep
                  cases gs : (((p[0]'hp0).toNat : Int) == 47) with
                  | false =>
                    have ns : (((p[0]'hp0).toNat : Int) != 47) = true := by rw [bne, gs]; rfl
                    have hsl : slashB p = false := by unfold slashB; rw [head_dot hp0]; exact gs
                    have HR : Hid (restB3 p he ha true x a = false) := Lib.hid (by simp [restB3, hsl])
                    go_wp2_with fail
                    go_meet
                    exact ⟨by rw [HR.out]; rfl, P2.out, B2.out⟩
                  | true =>
                    have ns : (((p[0]'hp0).toNat : Int) != 47) = false := by rw [bne, gs]; rfl
                    have hsl : slashB p = true := by unfold slashB; rw [head_dot hp0]; exact gs
                    cases ha with
                    | true =>
                      cases gI : inB a (-1000000000000) 1000000000000 with
                      | false =>
                        have HR : Hid (restB3 p he true true x a = false) := Lib.hid (by simp [restB3, hsl, gI])
                        go_wp2_with fail
                        refine (in_any a (-1000000000000) 1000000000000 _).mono ?_
                        rintro e w' ⟨rfl, rfl⟩
                        rw [gI]
                        go_wp2_with fail
                        go_meet
                        exact ⟨by rw [HR.out]; rfl, P2.out, B2.out⟩
                      | true =>
                        cases he with
                        | true =>
                          have HR : Hid (restB3 p true true true x a = true) := Lib.hid (by simp [restB3, hsl, gI])
                          go_wp2_with fail
                          refine (in_any a (-1000000000000) 1000000000000 _).mono ?_
                          rintro e w' ⟨rfl, rfl⟩
                          rw [gI]
                          go_wp2_with fail
                          go_meet
                          exact ⟨by rw [HR.out]; rfl, P2.out, B2.out⟩
                        | false =>
                          by_cases hx0 : x = 0
                          · subst hx0
                            have HR : Hid (restB3 p false true true 0 a = true) := Lib.hid (by simp [restB3, hsl, gI])
                            go_wp2_with fail
                            refine (in_any a (-1000000000000) 1000000000000 _).mono ?_
                            rintro e w' ⟨rfl, rfl⟩
                            rw [gI]
                            go_wp2_with fail
                            go_meet
                            exact ⟨by rw [HR.out]; rfl, P2.out, B2.out⟩
                          · have nx : (x != 0) = true := by simp [hx0]
                            have HR : Hid (restB3 p false true true x a = false) := Lib.hid (by simp [restB3, hsl, hx0])
                            go_wp2_with fail
                            refine (in_any a (-1000000000000) 1000000000000 _).mono ?_
                            rintro e w' ⟨rfl, rfl⟩
                            rw [gI]
                            go_wp2_with fail
                            go_meet
                            exact ⟨by rw [HR.out]; rfl, P2.out, B2.out⟩
                    | false =>
                      by_cases ha0 : a = 0
                      · subst ha0
                        have gI : inB 0 (-1000000000000) 1000000000000 = true := by decide
                        cases he with
                        | true =>
                          have HR : Hid (restB3 p true false true x 0 = true) := Lib.hid (by simp [restB3, hsl, gI])
                          go_wp2_with fail
                          refine (in_any 0 (-1000000000000) 1000000000000 _).mono ?_
                          rintro e w' ⟨rfl, rfl⟩
                          rw [gI]
                          go_wp2_with fail
                          go_meet
                          exact ⟨by rw [HR.out]; rfl, P2.out, B2.out⟩
                        | false =>
                          by_cases hx0 : x = 0
                          · subst hx0
                            have HR : Hid (restB3 p false false true 0 0 = true) := Lib.hid (by simp [restB3, hsl, gI])
                            go_wp2_with fail
                            refine (in_any 0 (-1000000000000) 1000000000000 _).mono ?_
                            rintro e w' ⟨rfl, rfl⟩
                            rw [gI]
                            go_wp2_with fail
                            go_meet
                            exact ⟨by rw [HR.out]; rfl, P2.out, B2.out⟩
                          · have nx : (x != 0) = true := by simp [hx0]
                            have HR : Hid (restB3 p false false true x 0 = false) := Lib.hid (by simp [restB3, hsl, hx0])
                            go_wp2_with fail
                            refine (in_any 0 (-1000000000000) 1000000000000 _).mono ?_
                            rintro e w' ⟨rfl, rfl⟩
                            rw [gI]
                            go_wp2_with fail
                            go_meet
                            exact ⟨by rw [HR.out]; rfl, P2.out, B2.out⟩
                      · have na : (a != 0) = true := by simp [ha0]
                        have HR : Hid (restB3 p he false true x a = false) := Lib.hid (by simp [restB3, hsl, ha0])
                        go_wp2_with fail
                        go_meet
                        exact ⟨by rw [HR.out]; rfl, P2.out, B2.out⟩
              | false =>
                cases ep : p.toList.isEmpty with
                | true =>
                  have HSZ := Lib.hid (empty_size ep)
                  cases ha with
                  | true =>
                    cases gI : inB a (-1000000000000) 1000000000000 with
                    | false =>
                      have HR : Hid (restB3 p he true false x a = false) := Lib.hid (by simp [restB3, HSZ.out, gI])
                      go_wp2_with fail
                      refine (in_any a (-1000000000000) 1000000000000 _).mono ?_
                      rintro e w' ⟨rfl, rfl⟩
                      rw [gI]
                      go_wp2_with fail
                      go_meet
                      exact ⟨by rw [HR.out]; rfl, P2.out, B2.out⟩
                    | true =>
                      cases he with
                      | true =>
                        have HR : Hid (restB3 p true true false x a = true) := Lib.hid (by simp [restB3, HSZ.out, gI])
                        go_wp2_with fail
                        refine (in_any a (-1000000000000) 1000000000000 _).mono ?_
                        rintro e w' ⟨rfl, rfl⟩
                        rw [gI]
                        go_wp2_with fail
                        go_meet
                        exact ⟨by rw [HR.out]; rfl, P2.out, B2.out⟩
                      | false =>
                        by_cases hx0 : x = 0
                        · subst hx0
                          have HR : Hid (restB3 p false true false 0 a = true) := Lib.hid (by simp [restB3, HSZ.out, gI])
                          go_wp2_with fail
                          refine (in_any a (-1000000000000) 1000000000000 _).mono ?_
                          rintro e w' ⟨rfl, rfl⟩
                          rw [gI]
                          go_wp2_with fail
                          go_meet
                          exact ⟨by rw [HR.out]; rfl, P2.out, B2.out⟩
                        · have nx : (x != 0) = true := by simp [hx0]
                          have HR : Hid (restB3 p false true false x a = false) := Lib.hid (by simp [restB3, HSZ.out, hx0])
                          go_wp2_with fail
                          refine (in_any a (-1000000000000) 1000000000000 _).mono ?_
                          rintro e w' ⟨rfl, rfl⟩
                          rw [gI]
                          go_wp2_with fail
                          go_meet
                          exact ⟨by rw [HR.out]; rfl, P2.out, B2.out⟩
                  | false =>
                    by_cases ha0 : a = 0
                    · subst ha0
                      have gI : inB 0 (-1000000000000) 1000000000000 = true := by decide
                      cases he with
                      | true =>
                        have HR : Hid (restB3 p true false false x 0 = true) := Lib.hid (by simp [restB3, HSZ.out, gI])
                        go_wp2_with fail
                        refine (in_any 0 (-1000000000000) 1000000000000 _).mono ?_
                        rintro e w' ⟨rfl, rfl⟩
                        rw [gI]
                        go_wp2_with fail
                        go_meet
                        exact ⟨by rw [HR.out]; rfl, P2.out, B2.out⟩
                      | false =>
                        by_cases hx0 : x = 0
                        · subst hx0
                          have HR : Hid (restB3 p false false false 0 0 = true) := Lib.hid (by simp [restB3, HSZ.out, gI])
                          go_wp2_with fail
                          refine (in_any 0 (-1000000000000) 1000000000000 _).mono ?_
                          rintro e w' ⟨rfl, rfl⟩
                          rw [gI]
                          go_wp2_with fail
                          go_meet
                          exact ⟨by rw [HR.out]; rfl, P2.out, B2.out⟩
                        · have nx : (x != 0) = true := by simp [hx0]
                          have HR : Hid (restB3 p false false false x 0 = false) := Lib.hid (by simp [restB3, HSZ.out, hx0])
                          go_wp2_with fail
                          refine (in_any 0 (-1000000000000) 1000000000000 _).mono ?_
                          rintro e w' ⟨rfl, rfl⟩
                          rw [gI]
                          go_wp2_with fail
                          go_meet
                          exact ⟨by rw [HR.out]; rfl, P2.out, B2.out⟩
                    · have na : (a != 0) = true := by simp [ha0]
                      have HR : Hid (restB3 p he false false x a = false) := Lib.hid (by simp [restB3, HSZ.out, ha0])
                      go_wp2_with fail
                      go_meet
                      exact ⟨by rw [HR.out]; rfl, P2.out, B2.out⟩
                | false =>
                  have HSZ : Hid (¬ p.size = 0) := Lib.hid (by have := some_size ep; omega)
                  have HR : Hid (restB3 p he ha false x a = false) := Lib.hid (by simp [restB3, HSZ.out])
                  go_wp2_with fail
                  go_meet
                  exact ⟨by rw [HR.out]; rfl, P2.out, B2.out⟩
          case rest =>
            rename_i wd
            obtain ⟨rfl, P3, B3⟩ := hcut
            have P3 := Lib.hid P3
            have B3 := Lib.hid B3
            clear P2 B2
            cases gR : restB3 p he ha hp x a with
            | false =>
              have HF := Lib.hid (HE.out false (by rw [GP.out, GD.out, gR]; rfl))
              go_wp2_with fail
              go_ret
              exact ⟨by rw [HF.out]; rfl, B3.out⟩
            | true =>
              have GR := Lib.hid gR
              clear gR
              go_upto_region 7 with fail
              have hN : Nonempty (Cls w w.heap.size n v d p he ha hp x a s sc ho) := Cls.full P3.out B3.out
              have q0 := Cls.at0 w w.heap.size n v d p he ha hp x a s sc ho
              have q1 := Cls.at1 w w.heap.size n v d p he ha hp x a s sc ho
              have q2 := Cls.at2 w w.heap.size n v d p he ha hp x a s sc ho
              have q3 := Cls.at3 w w.heap.size n v d p he ha hp x a s sc ho
              have q4 := Cls.at4 w w.heap.size n v d p he ha hp x a s sc ho
              have q5 := Cls.at5 w w.heap.size n v d p he ha hp x a s sc ho
              have q6 := Cls.at6 w w.heap.size n v d p he ha hp x a s sc ho
              have q7 := Cls.at7 w w.heap.size n v d p he ha hp x a s sc ho
              have q8 := Cls.at8 w w.heap.size n v d p he ha hp x a s sc ho
              have q9 := Cls.at9 w w.heap.size n v d p he ha hp x a s sc ho
              have q10 := Cls.at10 w w.heap.size n v d p he ha hp x a s sc ho
              have q11 := Cls.at11 w w.heap.size n v d p he ha hp x a s sc ho
              cases gx : inB x (-11644473600) 253402300799 with
              | false =>
                have HF := Lib.hid (HE.out _ (by rw [GP.out, GD.out, GR.out, gx]))
                refine wp_region_class (fun w' => ∃ i : Cls w w.heap.size n v d p he ha hp x a s sc ho, w' = i.w) (by kernel_rfl) (by kernel_rfl) (Cls.start P3.out B3.out) ?_
                repeat (go_big_quiet_step (first | (go_at_call 159; rename_i i; exact (low_any i.w).mono fun e w' h => ⟨h.1, i.next h.2⟩) | (go_at_call 160; rename_i i; exact (high_any i.w).mono fun e w' h => ⟨h.1, i.next h.2⟩) | (go_at_call 124; rename_i i; with_reducible refine (in_any x (-11644473600) 253402300799 i.w).mono ?_; intro e w' h; exact ⟨by rw [h.1, gx], i.same h.2⟩) | (go_at_call 124; rename_i i; with_reducible refine (in_any s 1 4 i.w).mono ?_; intro e w' h; exact ⟨h.1, i.same h.2⟩)))
                refine wpQuiet_nil ?_
                intro _ hw'
                obtain ⟨i, rfl⟩ := hw'
                clear q0 q1 q2 q3 q4 q5 q6 q7 q8 q9 q10 q11
                go_wp2_with fail
                go_ret
                exact ⟨by rw [HF.out]; simp, i.below⟩
              | true =>
                have HF := Lib.hid (HE.out _ (by rw [GP.out, GD.out, GR.out, gx]))
                refine wp_region_class (fun w' => ∃ i : Cls w w.heap.size n v d p he ha hp x a s sc ho, w' = i.w) (by kernel_rfl) (by kernel_rfl) (Cls.start P3.out B3.out) ?_
                repeat (go_big_quiet_step (first | (go_at_call 159; rename_i i; exact (low_any i.w).mono fun e w' h => ⟨h.1, i.next h.2⟩) | (go_at_call 160; rename_i i; exact (high_any i.w).mono fun e w' h => ⟨h.1, i.next h.2⟩) | (go_at_call 124; rename_i i; with_reducible refine (in_any x (-11644473600) 253402300799 i.w).mono ?_; intro e w' h; exact ⟨by rw [h.1, gx], i.same h.2⟩) | (go_at_call 124; rename_i i; with_reducible refine (in_any s 1 4 i.w).mono ?_; intro e w' h; exact ⟨h.1, i.same h.2⟩)))
                refine wpQuiet_nil ?_
                intro _ hw'
                obtain ⟨i, rfl⟩ := hw'
                clear q0 q1 q2 q3 q4 q5 q6 q7 q8 q9 q10 q11
                go_wp2_with fail
                go_ret
                exact ⟨by rw [HF.out]; simp, i.below⟩
end Go.Proofs.YtpdonghdnaehhaaGreatDoor
