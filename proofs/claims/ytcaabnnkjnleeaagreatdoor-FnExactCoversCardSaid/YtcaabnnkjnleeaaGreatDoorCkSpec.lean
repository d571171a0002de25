/- CookieOK of the model: what it answers. No condition of its own. -/
import Derived.Test.YtcaabnnkjnleeaaGreatDoorCkOK
import Derived.Test.YtcaabnnkjnleeaaGreatDoorSpecPlain
import Derived.Deep.DeepCutAuto
import Derived.Deep.QuietTactic
import Derived.BigQuiet
namespace Go.Proofs.YtcaabnnkjnleeaaGreatDoor
open Go.ChangeShapes Go.WideShapes Go.ChangeAt Go.WideMaps Go.WideElems Go.RowKit

theorem pair_bad1 {n v : ByteArray} (h : plainW n ⟨#[61, 59]⟩ = false) : pairOKB n v = false := by
  unfold pairOKB
  by_cases h1 : n.size + v.size ≤ 100
  · rw [plainW_two (by omega)] at h
    cases h2 : plainS n <;> cases h3 : allB n (noneB 61) <;> simp_all
  · simp [h1]
theorem pair_bad2 {n v : ByteArray} (h : plainW v ⟨#[59]⟩ = false) : pairOKB n v = false := by
  unfold pairOKB
  by_cases h1 : n.size + v.size ≤ 100
  · rw [plainW_one (by omega)] at h
    simp [h]
  · simp [h1]
theorem pair_good {n v : ByteArray} (h1 : plainW n ⟨#[61, 59]⟩ = true) (h2 : plainW v ⟨#[59]⟩ = true) (h3 : 0 < n.size + v.size) (h4 : n.size + v.size ≤ 100) : pairOKB n v = true := by
  rw [plainW_two (by omega)] at h1
  rw [plainW_one (by omega)] at h2
  rw [Bool.and_eq_true] at h1
  unfold pairOKB
  simp [h1, h2, h3, h4]
/-- What the model's first question asks. -/
def askB (q : Ck) : Bool := inRange q.i 1 1000000000000 && (pairOKB q.n q.v && hostB q.d)
theorem ck_parts (q : Ck) : ckOK q = (askB q && (cpathB q.p && (inRange q.s 1 4 && (inRange q.x 1 2000000000000 && (inRange q.m 0 1000000000000 && inRange q.u q.m 1000000000000))))) := by
  unfold ckOK askB
  cases inRange q.i 1 1000000000000 <;> cases pairOKB q.n q.v <;> cases hostB q.d <;> rfl
theorem head_at {p : ByteArray} (h0 : 0 < p.size) (c : UInt8) : (p.data.toList.head? == some c) = (((p[0]'h0).toNat : Int) == (c.toNat : Int)) := by
  have hl : 0 < p.data.toList.length := by simpa using h0
  have e : p.data.toList.head? = some (p[0]'h0) := by
    rw [List.head?_eq_getElem?, List.getElem?_eq_getElem hl]
    rfl
  rw [e]
  by_cases h : p[0]'h0 = c
  · rw [h]
    simp
  · have h2 : (((p[0]'h0).toNat : Int) == (c.toNat : Int)) = false := by
      rw [beq_eq_false_iff_ne]
      intro e2
      exact h (UInt8.toNat_inj.1 (by omega))
    rw [h2, beq_eq_false_iff_ne]
    simpa using h
def CkCut (w : World) (b : Bool) (q : Ck) (u : Value) (wx : World) : Prop := u = .bool b ∧ CkB wx w.heap.size q ∧ Below w.heap.size w wx
set_option maxHeartbeats 60000000 in
set_option maxRecDepth 100000 in
theorem specCkL (q : Ck) (w : World) (hn : q.n.size ≤ 1048576) (hv : q.v.size ≤ 1048576) (hd : q.d.size ≤ 1048576) (hp : q.p.size ≤ 1048576) :
    Calls Tryz.prog 34 #[.agg #[.int .i64 q.i, .string q.n, .string q.v, .string q.d, .string q.p, .bool q.ho, .bool q.sc, .bool q.ht, .int .i64 q.s, .int .i64 q.x, .int .i64 q.m, .int .i64 q.u]] w fun e w' => e = .returned (.bool (ckOK q)) ∧ Below w.heap.size w w' := by
  have HE : Hid (∀ b, (askB q && (cpathB q.p && (inRange q.s 1 4 && (inRange q.x 1 2000000000000 && (inRange q.m 0 1000000000000 && inRange q.u q.m 1000000000000))))) = b → ckOK q = b) := Lib.hid fun b h => by rw [ck_parts]; exact h
  have B0 := Lib.hid ((Below.refl w.heap.size w).alloc (Nat.le_refl _) (.cells #[.int .i64 q.i, .string q.n, .string q.v, .string q.d, .string q.p, .bool q.ho, .bool q.sc, .bool q.ht, .int .i64 q.s, .int .i64 q.x, .int .i64 q.m, .int .i64 q.u] 26))
  have P0 := Lib.hid (CkB.new w q)
  go_enter Tryz.func34, Tryz.ntmps34
  go_upto_region 1 with fail
  go_cut [44] (fun u wx => CkCut w (!askB q) q u wx)
  case first =>
    cases g0 : inRange q.i 1 1000000000000 with
    | false =>
      have HG : Hid (askB q = false) := Lib.hid (by unfold askB; rw [g0]; rfl)
      go_wp2_with fail
      refine (within_any _ _ _ _).mono ?_
      rintro e w' ⟨rfl, rfl⟩
      rw [g0]
      clear g0
      go_wp2_with fail
      go_meet
      exact ⟨by rw [HG.out]; rfl, P0.out, B0.out⟩
    | true =>
      have G0 := Lib.hid g0
      go_wp2_with fail
      refine (within_any _ _ _ _).mono ?_
      rintro e w' ⟨rfl, rfl⟩
      rw [g0]
      clear g0
      obtain ⟨c0, c1, c2, c3, c4, c5, c6, c7, c8, c9, c10, c11⟩ := P0.out.at
      cases g1 : plainW q.n ⟨#[61, 59]⟩ with
      | false =>
        have HG : Hid (askB q = false) := Lib.hid (by unfold askB; rw [G0.out, pair_bad1 (v := q.v) g1]; rfl)
        go_wp2_with fail
        refine (specPlain q.n ⟨#[61, 59]⟩ _ hn (by decide)).mono ?_
        rintro e w' ⟨rfl, rfl⟩
        rw [g1]
        clear g1
        go_wp2_with fail
        go_meet
        exact ⟨by rw [HG.out]; rfl, P0.out, B0.out⟩
      | true =>
        have G1 := Lib.hid g1
        go_wp2_with fail
        refine (specPlain q.n ⟨#[61, 59]⟩ _ hn (by decide)).mono ?_
        rintro e w' ⟨rfl, rfl⟩
        rw [g1]
        clear g1
        cases g2 : plainW q.v ⟨#[59]⟩ with
        | false =>
          have HG : Hid (askB q = false) := Lib.hid (by unfold askB; rw [G0.out, pair_bad2 (n := q.n) g2]; rfl)
          go_wp2_with fail
          refine (specPlain q.v ⟨#[59]⟩ _ hv (by decide)).mono ?_
          rintro e w' ⟨rfl, rfl⟩
          rw [g2]
          clear g2
          go_wp2_with fail
          go_meet
          exact ⟨by rw [HG.out]; rfl, P0.out, B0.out⟩
        | true =>
          have G2 := Lib.hid g2
          go_wp2_with fail
          refine (specPlain q.v ⟨#[59]⟩ _ hv (by decide)).mono ?_
          rintro e w' ⟨rfl, rfl⟩
          rw [g2]
          clear g2
          cases en : q.n.toList.isEmpty with
          | true =>
            have hn0 := empty_size en
            cases ev : q.v.toList.isEmpty with
            | true =>
              have hv0 := empty_size ev
              have HG : Hid (askB q = false) := Lib.hid (by unfold askB pairOKB; simp [hn0, hv0])
              go_wp2_with fail
              go_meet
              exact ⟨by rw [HG.out]; rfl, P0.out, B0.out⟩
            | false =>
              have hv0 := some_size ev
              by_cases h4 : q.n.size + q.v.size ≤ 100
              · have h4i : (q.n.size : Int) + q.v.size ≤ 100 := by omega
                have HP := Lib.hid (pair_good G1.out G2.out (by omega) h4)
                go_wp2_with fail
                refine (specHostL q.d _ hd).mono ?_
                rintro e w1 ⟨rfl, hb⟩
                have B1 := Lib.hid (B0.out.trans (hb.mono B0.out.size))
                have P1 := Lib.hid (P0.out.stays hb)
                clear hb
                go_wp2_with fail
                go_meet
                exact ⟨by unfold askB; rw [G0.out, HP.out]; first | rfl | (simp; done) | (simp; intro h; omega), P1.out, B1.out⟩
              · have h4i : (100 : Int) < (q.n.size : Int) + q.v.size := by omega
                have HG : Hid (askB q = false) := Lib.hid (by unfold askB pairOKB; simp [h4])
                go_wp2_with fail
                go_meet
                exact ⟨by rw [HG.out]; first | rfl | (simp; omega), P0.out, B0.out⟩
          | false =>
            have hn0 := some_size en
            by_cases h4 : q.n.size + q.v.size ≤ 100
            · have h4i : (q.n.size : Int) + q.v.size ≤ 100 := by omega
              have HP := Lib.hid (pair_good G1.out G2.out (by omega) h4)
              go_wp2_with fail
              refine (specHostL q.d _ hd).mono ?_
              rintro e w1 ⟨rfl, hb⟩
              have B1 := Lib.hid (B0.out.trans (hb.mono B0.out.size))
              have P1 := Lib.hid (P0.out.stays hb)
              clear hb
              go_wp2_with fail
              go_meet
              exact ⟨by unfold askB; rw [G0.out, HP.out]; first | rfl | (simp; done) | (simp; intro h; omega), P1.out, B1.out⟩
            · have h4i : (100 : Int) < (q.n.size : Int) + q.v.size := by omega
              have HG : Hid (askB q = false) := Lib.hid (by unfold askB pairOKB; simp [h4])
              go_wp2_with fail
              go_meet
              exact ⟨by rw [HG.out]; first | rfl | (simp; omega), P0.out, B0.out⟩
  case rest =>
    rename_i wc
    obtain ⟨rfl, P1, B1⟩ := hcut
    have P1 := Lib.hid P1
    have B1 := Lib.hid B1
    clear P0 B0
    cases gP : askB q with
    | false =>
      have HF := Lib.hid (HE.out false (by rw [gP]; rfl))
      go_wp2_with fail
      go_ret
      exact ⟨by rw [HF.out]; rfl, B1.out⟩
    | true =>
      have HQ : Hid (∀ b, (cpathB q.p && (inRange q.s 1 4 && (inRange q.x 1 2000000000000 && (inRange q.m 0 1000000000000 && inRange q.u q.m 1000000000000)))) = b → ckOK q = b) := Lib.hid fun b h => HE.out b (by rw [gP]; exact h)
      clear gP
      obtain ⟨c0, c1, c2, c3, c4, c5, c6, c7, c8, c9, c10, c11⟩ := P1.out.at
      have ham : q.p.size ≤ maxLen := by unfold maxLen; omega
      by_cases h1 : 0 < q.p.size
      · cases g1 : (((q.p[0]'h1).toNat : Int) == 47) with
        | false =>
          have HS : Hid (slashB q.p = false) := Lib.hid (by unfold slashB; rw [head_at h1]; exact g1)
          have HF := Lib.hid (HQ.out false (by unfold cpathB; rw [HS.out]; simp))
          go_wp2_with fail
          go_ret
          exact ⟨by rw [HF.out]; rfl, B1.out⟩
        | true =>
          have HS : Hid (slashB q.p = true) := Lib.hid (by unfold slashB; rw [head_at h1]; exact g1)
          by_cases h2 : (q.p.size : Int) ≤ 60
          · cases g3 : allB q.p plainB with
            | false =>
              have HF := Lib.hid (HQ.out false (by unfold cpathB controlOK; rw [g3, decide_eq_true (show q.p.size ≤ 65536 by omega)]; simp))
              go_wp2_with fail
              refine (specControl q.p _ ham).mono ?_
              rintro e w' ⟨rfl, rfl⟩
              rw [g3]
              clear g3
              go_wp2_with fail
              go_ret
              exact ⟨by rw [HF.out]; rfl, B1.out⟩
            | true =>
              have HR : Hid (∀ b, (inRange q.s 1 4 && (inRange q.x 1 2000000000000 && (inRange q.m 0 1000000000000 && inRange q.u q.m 1000000000000))) = b → ckOK q = b) := Lib.hid fun b h => HQ.out b (by
                have e : cpathB q.p = true := by unfold cpathB controlOK; rw [g3, HS.out, decide_eq_true (show q.p.size ≤ 60 by omega)]; simp
                rw [e]
                exact h)
              go_wp2_with fail
              refine (specControl q.p _ ham).mono ?_
              rintro e w' ⟨rfl, rfl⟩
              rw [g3]
              clear g3
              cases g4 : inRange q.s 1 4 with
              | false =>
                have HF := Lib.hid (HR.out false (by rw [g4]; rfl))
                go_wp2_with fail
                refine (within_any _ _ _ _).mono ?_
                rintro e w' ⟨rfl, rfl⟩
                rw [g4]
                clear g4
                go_wp2_with fail
                go_ret
                exact ⟨by rw [HF.out]; rfl, B1.out⟩
              | true =>
                have G4 := Lib.hid g4
                go_wp2_with fail
                refine (within_any _ _ _ _).mono ?_
                rintro e w' ⟨rfl, rfl⟩
                rw [g4]
                clear g4
                cases g5 : inRange q.x 1 2000000000000 with
                | false =>
                  have HF := Lib.hid (HR.out false (by rw [G4.out, g5]; rfl))
                  go_wp2_with fail
                  refine (within_any _ _ _ _).mono ?_
                  rintro e w' ⟨rfl, rfl⟩
                  rw [g5]
                  clear g5
                  go_wp2_with fail
                  go_ret
                  exact ⟨by rw [HF.out]; rfl, B1.out⟩
                | true =>
                  have G5 := Lib.hid g5
                  go_wp2_with fail
                  refine (within_any _ _ _ _).mono ?_
                  rintro e w' ⟨rfl, rfl⟩
                  rw [g5]
                  clear g5
                  cases g6 : inRange q.m 0 1000000000000 with
                  | false =>
                    have HF := Lib.hid (HR.out false (by rw [G4.out, G5.out, g6]; rfl))
                    go_wp2_with fail
                    refine (within_any _ _ _ _).mono ?_
                    rintro e w' ⟨rfl, rfl⟩
                    rw [g6]
                    clear g6
                    go_wp2_with fail
                    go_ret
                    exact ⟨by rw [HF.out]; rfl, B1.out⟩
                  | true =>
                    have G6 := Lib.hid g6
                    go_wp2_with fail
                    refine (within_any _ _ _ _).mono ?_
                    rintro e w' ⟨rfl, rfl⟩
                    rw [g6]
                    clear g6
                    have HF := Lib.hid (HR.out _ (by rw [G4.out, G5.out, G6.out]))
                    go_wp2_with fail
                    refine (within_any _ _ _ _).mono ?_
                    rintro e w' ⟨rfl, rfl⟩
                    go_wp2_with fail
                    go_ret
                    exact ⟨by rw [HF.out]; first | rfl | simp, B1.out⟩
          · have h2' : (60 : Int) < q.p.size := by omega
            have HF := Lib.hid (HQ.out false (by unfold cpathB; rw [decide_eq_false (by omega)]; rfl))
            go_wp2_with fail
            go_ret
            exact ⟨by rw [HF.out]; rfl, B1.out⟩
      · have h0 : q.p.size = 0 := by omega
        have HF := Lib.hid (HQ.out false (by
          have e : slashB q.p = false := by
            unfold slashB
            have : q.p.data.toList = [] := List.eq_nil_of_length_eq_zero (by simpa using h0)
            rw [this]
            rfl
          unfold cpathB
          rw [e]
          simp))
        go_wp2_with fail
        go_ret
        exact ⟨by rw [HF.out]; rfl, B1.out⟩
end Go.Proofs.YtcaabnnkjnleeaaGreatDoor
