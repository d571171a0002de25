/- The model's HostOK: what it answers; the law's walk. No condition of its own. -/
import Derived.Test.YtcaabnnkjnleeaaDoorHostOK
import Derived.Test.YtcaabnnkjnleeaaDoorDecimal
import Derived.Test.YtcaabnnkjnleeaaDoorCut
namespace Go.Proofs.YtcaabnnkjnleeaaDoor
open Go.ChangeShapes Go.WideShapes Go.ChangeAt Go.WideMaps Go.WideElems Go.RowKit

def inRange (n a b : Int) : Bool := decide (a ≤ n ∧ n ≤ b)
theorem within_any (n a b : Int) (w : World) : Calls Tryd.prog 55 #[.int .i64 n, .int .i64 a, .int .i64 b] w fun e w' => e = .returned (.bool (inRange n a b)) ∧ w = w' := by
  by_cases h1 : a ≤ n
  · by_cases h2 : n ≤ b
    · have HE : Hid (inRange n a b = true) := decide_eq_true ⟨h1, h2⟩
      go_enter Tryd.func55, Tryd.ntmps55
      go_wp2
      go_ret
      exact ⟨bool_end HE.out.symm, rfl⟩
    · have HE : Hid (inRange n a b = false) := decide_eq_false (fun h => h2 h.2)
      go_enter Tryd.func55, Tryd.ntmps55
      go_wp2
      go_ret
      exact ⟨bool_end HE.out.symm, rfl⟩
  · have HE : Hid (inRange n a b = false) := decide_eq_false (fun h => h1 h.1)
    go_enter Tryd.func55, Tryd.ntmps55
    go_wp2
    go_ret
    exact ⟨bool_end HE.out.symm, rfl⟩
theorem host_parts (s : ByteArray) : hostB s = (decide (s.size ≤ 40) && partsOK 6 (cutL 46 s.data.toList)) := by rw [hostB, hostN_eq]
theorem host_zero {s : ByteArray} (h : ¬ 1 ≤ s.size) : hostB s = false := by
  cases e : hostB s with
  | false => rfl
  | true => exact absurd (host_size e).1 h
def GoodUpto (ps : List (List UInt8)) (k : Nat) : Prop := ∀ j (hj : j < ps.length), j < k → goodL ps[j] = true
theorem good_succ {ps : List (List UInt8)} {k : Nat} (h : GoodUpto ps k) (hk : k < ps.length) (hg : goodL ps[k] = true) : GoodUpto ps (k + 1) := fun j hj h2 => by
  by_cases e : j = k
  · subst e
    exact hg
  · exact h j hj (by omega)
theorem good_all {ps : List (List UInt8)} {k : Nat} (h : GoodUpto ps k) (hk : ps.length ≤ k) : ps.all goodL = true := by
  rw [List.all_eq_true]
  intro x hx
  obtain ⟨j, hj, rfl⟩ := List.mem_iff_getElem.1 hx
  exact h j hj (by omega)
theorem good_not {ps : List (List UInt8)} {k : Nat} (hk : k < ps.length) (hg : goodL ps[k] = false) : ps.all goodL = false := by
  rw [List.all_eq_false]
  exact ⟨ps[k], List.getElem_mem hk, by simp [hg]⟩
theorem good_of_upto {u : ByteArray} {m : Nat} (h : Upto u labelB m) (hm : u.size ≤ m) (h0 : 0 < u.size) : goodL u.data.toList = true := by
  have := all_of_upto h hm
  unfold allB at this
  rw [goodL, this]
  cases hh : u.data.toList with
  | nil => exact absurd (by have := congrArg List.length hh; simpa using this) (by omega : ¬ u.size = 0)
  | cons _ _ => rfl
theorem good_bad {u : ByteArray} {m : Nat} (hm : m < u.size) (h : labelB (u[m]'hm) = false) : goodL u.data.toList = false := by
  have := all_false_at (p := labelB) hm h
  unfold allB at this
  rw [goodL, this]
  simp
set_option maxHeartbeats 2000000 in
set_option maxRecDepth 100000 in
theorem specHostL (s : ByteArray) (w : World) (hs : s.size ≤ 1048576) : Calls Tryd.prog 90 #[.string s] w fun e w' => e = .returned (.bool (hostB s)) ∧ Below w.heap.size w w' := by
  by_cases h1 : 1 ≤ s.size ∧ s.size ≤ 40
  · have HI : Hid (inRange s.size 1 40 = true) := decide_eq_true (by omega)
    obtain ⟨_, h40⟩ := h1
    have hH := host_parts s
    rw [decide_eq_true h40, Bool.true_and] at hH
    have hp1 := cutL_pos 46 s.data.toList
    have hp2 := cutL_le 46 s.data.toList
    have hzz : s.data.toList.length = s.size := by simp
    have HM : Hid (∀ x ∈ cutL 46 s.data.toList, x.length ≤ 40) := fun x hx => by
      have := cutL_mem hx
      omega
    have HP : Hid (hostB s = partsOK 6 (cutL 46 s.data.toList)) := hH
    rw [hzz] at hp2
    clear hH hzz
    go_enter Tryd.func90, Tryd.ntmps90
    go_wp2_with (first
      | (go_at_call 55; refine (within_any _ _ _ _).mono ?_; rintro e w' ⟨rfl, rfl⟩; rw [HI.out])
      | (go_at_call 106; refine (cut_any s 46 _ hs).mono ?_; rintro e w1 ⟨v, rfl, hown, hb⟩; have HB := Lib.hid hb; have HT := Lib.hid (texts_of_own hp1 hown); clear hown hb; generalize hps : cutL 46 s.data.toList = ps at *; obtain ⟨g, cap, rfl, hg1, hg2, hcap, hcm, _, hcells⟩ := HT.out; have HC := Lib.hid hcells; have HQ := Lib.hid hps; clear hcells hps))
    · have hlt : (6 : Int) < ps.length := by assumption
      go_ret
      refine ⟨bool_end ?_, HB.out⟩
      rw [HP.out, partsOK, decide_eq_false (by omega)]
      rfl
    · have hle : (ps.length : Int) ≤ 6 := by assumption
      have HP2 : Hid (hostB s = ps.all goodL) := by
        show _ = _
        rw [HP.out, partsOK, decide_eq_true (by omega)]
        rfl
      clear hle
      go_loop [4] (fun i => ∃ k : Nat, k ≤ ps.length ∧ i = .int .i64 k ∧ GoodUpto ps k) (fun i => ps.length - (intOf i).toNat)
      case atStart => exact ⟨0, Nat.zero_le _, rfl, fun j hj h => by omega⟩
      case round =>
        obtain ⟨k, hk, rfl, hgood⟩ := hrel
        have HG := Lib.hid hgood
        clear hgood
        by_cases hlt : k < ps.length
        · obtain ⟨u, hu⟩ : ∃ u : ByteArray, u = ⟨ps[k].toArray⟩ := ⟨_, rfl⟩
          have hud : u.data.toList = ps[k] := by rw [hu]
          have hcell : w1.cell? ⟨g, k, none⟩ = some (.string u) := by
            rw [HC.out k hlt, hu]
            rfl
          have hus : u.size ≤ 40 := by
            have h := HM.out ps[k] (List.getElem_mem hlt)
            rw [← hud] at h
            simpa using h
          have HU := Lib.hid hud
          clear hu hud
          by_cases h0 : 0 < u.size
          · have f0 : ((u.size : Int) == 0) = false := by
              rw [beq_eq_false_iff_ne]
              omega
            go_wp2
            clear f0
            go_loop [5] (fun i => ∃ m : Nat, m ≤ u.size ∧ i = .int .i64 m ∧ Upto u labelB m) (fun i => u.size - (intOf i).toNat)
            case atStart => exact ⟨0, Nat.zero_le _, rfl, upto_zero _ _⟩
            case round =>
              obtain ⟨m, hm, rfl, hup⟩ := hrel
              have HUp := Lib.hid hup
              clear hup
              by_cases hmlt : m < u.size
              · cases hL : labelB (u[m]'hmlt) with
                | true =>
                  have HL := Lib.hid hL
                  have hcase := (label_iff _).1 hL
                  clear hL
                  rcases hcase with ⟨h1, h2⟩ | ⟨h1, h2⟩ | h1 | h1
                  · have hd : digitB (u[m]'hmlt) = false := by simp [digitB]; omega
                    go_wp2
                    go_round
                    case rel => exact ⟨m + 1, by omega, by go_num, upto_succ HUp.out hmlt HL.out⟩
                    case measure => simp [intOf]; omega
                  · have hd : digitB (u[m]'hmlt) = true := by simp [digitB]; omega
                    go_wp2_with (go_at_call 107; refine (digit_any _ _).mono ?_; rintro e w' ⟨rfl, rfl⟩)
                    go_round
                    case rel => exact ⟨m + 1, by omega, by go_num, upto_succ HUp.out hmlt HL.out⟩
                    case measure => simp [intOf]; omega
                  · have hd : digitB (u[m]'hmlt) = false := by simp [digitB]; omega
                    have f45 : (((u[m]'hmlt).toNat : Int) != 45) = false := by rw [h1]; rfl
                    have h2 : (u[m]'hmlt).toNat < 97 := by omega
                    clear h1
                    go_wp2_with (go_at_call 107; refine (digit_any _ _).mono ?_; rintro e w' ⟨rfl, rfl⟩)
                    go_round
                    case rel => exact ⟨m + 1, by omega, by go_num, upto_succ HUp.out hmlt HL.out⟩
                    case measure => simp [intOf]; omega
                  · have hd : digitB (u[m]'hmlt) = false := by simp [digitB]; omega
                    have f45 : (((u[m]'hmlt).toNat : Int) != 45) = true := by rw [h1]; rfl
                    have f95 : (((u[m]'hmlt).toNat : Int) != 95) = false := by rw [h1]; rfl
                    have h2 : (u[m]'hmlt).toNat < 97 := by omega
                    clear h1
                    go_wp2_with (go_at_call 107; refine (digit_any _ _).mono ?_; rintro e w' ⟨rfl, rfl⟩)
                    go_round
                    case rel => exact ⟨m + 1, by omega, by go_num, upto_succ HUp.out hmlt HL.out⟩
                    case measure => simp [intOf]; omega
                | false =>
                  have hbad := good_bad hmlt hL
                  rw [HU.out] at hbad
                  have HX : Hid (hostB s = false) := by
                    show _ = _
                    rw [HP2.out, good_not hlt hbad]
                  have hcase : ¬ (97 ≤ (u[m]'hmlt).toNat ∧ (u[m]'hmlt).toNat ≤ 122 ∨ 48 ≤ (u[m]'hmlt).toNat ∧ (u[m]'hmlt).toNat ≤ 57 ∨ (u[m]'hmlt).toNat = 45 ∨ (u[m]'hmlt).toNat = 95) := fun h => Bool.false_ne_true (hL.symm.trans ((label_iff _).2 h))
                  have hd : digitB (u[m]'hmlt) = false := by simp [digitB]; omega
                  have f45 : (((u[m]'hmlt).toNat : Int) != 45) = true := by
                    rw [bne_iff_ne]
                    omega
                  have f95 : (((u[m]'hmlt).toNat : Int) != 95) = true := by
                    rw [bne_iff_ne]
                    omega
                  rcases (show (u[m]'hmlt).toNat < 97 ∨ 122 < (u[m]'hmlt).toNat by omega) with h2 | h2
                  all_goals
                    clear hcase hL hbad
                    go_wp2_with (go_at_call 107; refine (digit_any _ _).mono ?_; rintro e w' ⟨rfl, rfl⟩)
                    go_ret
                    exact ⟨bool_end HX.out.symm, HB.out⟩
              · go_wp2
                go_round
                case rel => exact ⟨k + 1, by omega, by go_num, good_succ HG.out hlt (by rw [← HU.out]; exact good_of_upto HUp.out (by omega) h0)⟩
                case measure => simp [intOf]; omega
          · have f0 : ((u.size : Int) == 0) = true := by
              rw [beq_iff_eq]
              omega
            go_wp2
            go_ret
            refine ⟨bool_end ?_, HB.out⟩
            have hnil : ps[k] = [] := by
              rw [← HU.out]
              exact List.eq_nil_of_length_eq_zero (by simpa using (by omega : u.size = 0))
            rw [HP2.out, good_not hlt (by rw [hnil]; rfl)]
        · go_wp2
          go_ret
          exact ⟨bool_end (by rw [HP2.out, good_all HG.out (by omega)]), HB.out⟩
  · have HE : Hid (hostB s = false) := by
      show _ = _
      by_cases h : 1 ≤ s.size
      · rw [host_parts, decide_eq_false (by omega)]
        rfl
      · exact host_zero h
    have HI : Hid (inRange s.size 1 40 = false) := decide_eq_false (by omega)
    go_enter Tryd.func90, Tryd.ntmps90
    go_wp2_with (go_at_call 55; refine (within_any _ _ _ _).mono ?_; rintro e w' ⟨rfl, rfl⟩; rw [HI.out])
    go_ret
    exact ⟨bool_end HE.out.symm, Below.refl _ _⟩
theorem host_long {s : ByteArray} (h : ¬ s.size ≤ 40) : hostB s = false := by simp [hostB, h]
end Go.Proofs.YtcaabnnkjnleeaaDoor
