/- The first of a family, in the program. No condition of its own. -/
import Derived.Test.YteaapglkomlnhaaHpUp
import Derived.Test.YteaapglkomlnhaaHpImpl
namespace Go.Proofs.Yteaapglkomlnhaa
open Go.ChangeShapes Go.WideShapes Go.ChangeAt Go.WideMaps Go.WideElems Go.RowKit

/-- The first among a place and those of its children that come before the c-th. -/
def famN (qs : List Sl) (i : Nat) : Nat → Nat
  | 0 => i
  | c + 1 => if 2 * i + 1 + c < qs.length ∧ ltS qs[2 * i + 1 + c]! qs[famN qs i c]! = true then 2 * i + 1 + c else famN qs i c
theorem famN_two (qs : List Sl) (i : Nat) : famN qs i 2 = famL qs i := by
  unfold famL
  rw [famN, famN, famN]
theorem famN_end {qs : List Sl} {i : Nat} : ∀ {c d : Nat}, qs.length ≤ 2 * i + 1 + c → c ≤ d → famN qs i d = famN qs i c
  | c, 0, h, hd => by rw [show c = 0 by omega]
  | c, d + 1, h, hd => by
    by_cases e : c = d + 1
    · rw [e]
    · rw [famN, if_neg (by omega), famN_end (d := d) h (by omega)]
theorem famN_lt {qs : List Sl} {i : Nat} (hi : i < qs.length) : ∀ c, famN qs i c < qs.length
  | 0 => hi
  | c + 1 => by
    rw [famN]
    split
    · omega
    · exact famN_lt hi c
set_option maxHeartbeats 2000000 in
set_option maxRecDepth 100000 in
theorem fam_any (g cap i n : Nat) (qs : List Sl) (w : World) (hn : qs.length = n) (hl : n ≤ 1048576) (hi : i < n) (hr : RowSl w g qs) : Calls Try.prog 76 #[.slice (some ⟨g, 0, none⟩) n cap, .int .i64 i] w fun e w' => e = .returned (.int .i64 ((famL qs i : Nat) : Int)) ∧ Below w.heap.size w w' := by
  have HR := Lib.hid hr
  have HN := Lib.hid hn
  clear hr hn
  go_enter Try.func76, Try.ntmps76
  go_wp2_with fail
  go_loopw [5, 6] (fun f c wr => ∃ k : Nat, k ≤ 2 ∧ c = .int .i64 ((2 * i + 1 + k : Nat) : Int) ∧ f = .int .i64 ((famN qs i k : Nat) : Int) ∧ Below w.heap.size w wr) (fun _ c _ => 2 * i + 4 - (intOf c).toNat)
  case atStart => exact ⟨0, by omega, by simp, rfl, Below.refl _ _⟩
  case round =>
    obtain ⟨k, hk, rfl, rfl, hb⟩ := hrel
    have HB := Lib.hid hb
    clear hb
    obtain ⟨f, hf⟩ : ∃ f, famN qs i k = f := ⟨_, rfl⟩
    have hfl : f < n := by rw [← hf]; have := famN_lt (qs := qs) (i := i) (by have := HN.out; omega) k; have := HN.out; omega
    have HF := Lib.hid hf
    rw [hf]
    clear hf
    obtain ⟨c, hc⟩ : ∃ c, 2 * i + 1 + k = c := ⟨_, rfl⟩
    have HC := Lib.hid hc
    rw [hc]
    have ii : (c : Int) ≤ 2 * (i : Int) + 2 ↔ k < 2 := by omega
    have hcs : c ≤ 2 * i + 3 := by omega
    by_cases hk2 : k < 2
    · have d1 : decide ((c : Int) ≤ 2 * (i : Int) + 2) = true := decide_eq_true (by omega)
      by_cases hcn : c < n
      · have d2 : decide ((c : Int) < (n : Int)) = true := decide_eq_true (by omega)
        obtain ⟨q, hq⟩ : ∃ q, qs[c]! = q := ⟨_, rfl⟩
        obtain ⟨p, hp⟩ : ∃ p, qs[f]! = p := ⟨_, rfl⟩
        obtain ⟨c0, c1, _, _⟩ := (HR.out.below HB.out).cells (t := c) (by rw [HN.out]; exact hcn)
        obtain ⟨e0, e1, _, _⟩ := (HR.out.below HB.out).cells (t := f) (by rw [HN.out]; exact hfl)
        rw [hq] at c0 c1
        rw [hp] at e0 e1
        have HQ := Lib.hid hq
        have HP := Lib.hid hp
        have hN : Nonempty (BCl wr) := BCl.full wr
        have q0x := BCl.cell c0
        have q1x := BCl.cell c1
        have q2x := BCl.cell e0
        have q3x := BCl.cell e1
        have s0 : (0 : Int) ≤ (c : Int) := by omega
        have s1 : (c : Int) < n := by omega
        have t0 : (0 : Int) ≤ (f : Int) := by omega
        have t1 : (f : Int) < n := by omega
        clear hq hp c0 c1 e0 e1 hc
        cases r4 : ltS q p with
        | true =>
          have HE : Hid (famN qs i (k + 1) = c) := Lib.hid (by
            rw [famN, HF.out, HC.out, if_pos]
            exact ⟨by rw [HN.out]; exact hcn, by rw [HQ.out, HP.out]; exact r4⟩)
          go_upto_region 5 with fail
          refine wp_region_below (fun w' => ∃ i : BCl wr, w' = i.w) (by kernel_rfl) (by kernel_rfl) (BCl.start wr) ?_
          repeat (go_big_quiet_step (first | fail))
          go_big_quiet_want
          refine quiet_prec (.tmp 28) (.tmp 32) _ q p _ rfl rfl rfl r4 bcl_next ?_
          go_big_quiet_on
          refine wpQuiet_nil ?_
          intro _ hw'
          obtain ⟨z, rfl⟩ := hw'
          clear q0x q1x q2x q3x hN
          go_wp2_with fail
          go_roundw
          case rel => exact ⟨k + 1, by omega, by rw [← HC.out]; go_num, by rw [HE.out], HB.out.trans (z.below.mono HB.out.size)⟩
          case measure => simp [intOf]; omega
        | false =>
          have HE : Hid (famN qs i (k + 1) = f) := Lib.hid (by
            rw [famN, HF.out, HC.out, if_neg]
            rintro ⟨_, h⟩
            rw [HQ.out, HP.out, r4] at h
            exact Bool.noConfusion h)
          go_upto_region 5 with fail
          refine wp_region_below (fun w' => ∃ i : BCl wr, w' = i.w) (by kernel_rfl) (by kernel_rfl) (BCl.start wr) ?_
          repeat (go_big_quiet_step (first | fail))
          go_big_quiet_want
          refine quiet_prec (.tmp 28) (.tmp 32) _ q p _ rfl rfl rfl r4 bcl_next ?_
          go_big_quiet_on
          refine wpQuiet_nil ?_
          intro _ hw'
          obtain ⟨z, rfl⟩ := hw'
          clear q0x q1x q2x q3x hN
          go_wp2_with fail
          go_roundw
          case rel => exact ⟨k + 1, by omega, by rw [← HC.out]; go_num, by rw [HE.out], HB.out.trans (z.below.mono HB.out.size)⟩
          case measure => simp [intOf]; omega
      · have d2 : decide ((c : Int) < (n : Int)) = false := decide_eq_false (by omega)
        have HE : Hid (famL qs i = f) := Lib.hid (by
          rw [← famN_two, famN_end (c := k) (by have := HN.out; have := HC.out; omega) hk, HF.out])
        have ncn : ¬ (c : Int) < (n : Int) := by omega
        clear hc
        go_wp2_with fail
        go_ret
        exact ⟨by rw [HE.out]; rfl, HB.out⟩
    · have d1 : decide ((c : Int) ≤ 2 * (i : Int) + 2) = false := decide_eq_false (by omega)
      have HE : Hid (famL qs i = f) := Lib.hid (by rw [← famN_two, ← HF.out, show k = 2 by omega])
      have ncn : ¬ (c : Int) ≤ 2 * (i : Int) + 2 := by omega
      clear hc
      go_wp2_with fail
      go_ret
      exact ⟨by rw [HE.out]; rfl, HB.out⟩
end Go.Proofs.Yteaapglkomlnhaa
