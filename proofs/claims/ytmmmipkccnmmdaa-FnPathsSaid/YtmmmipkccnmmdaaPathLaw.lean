/- FnPaths: the walk of the law over drawn paths. No condition of its own. -/
import Derived.Test.YtmmmipkccnmmdaaDefault
import Derived.Test.YtmmmipkccnmmdaaDraws
import Derived.Deep.RegionHeld3
import Derived.Deep.DeepCutAuto
import Derived.Stop.LaidErr
namespace Go.Proofs.Ytmmmipkccnmmdaa
open Go.ChangeShapes Go.WideShapes Go.ChangeAt Go.WideMaps Go.WideElems Go.RowKit

def pathTexts : List ByteArray := [⟨#[47]⟩, ⟨#[47, 97]⟩, ⟨#[47, 97, 47]⟩, ⟨#[47, 97, 47, 98]⟩, ⟨#[47, 97, 47, 98, 47, 99]⟩, ⟨#[47, 97, 98]⟩, ⟨#[47, 98]⟩]
theorem path_facts : ∀ p ∈ pathTexts, p.size ≤ 6 ∧ 1 ≤ p.size ∧ (defaultB p).size ≤ 6 ∧ pathB p (defaultB p) = true ∧ pathB p p = true ∧ (∀ q ∈ pathTexts, pathB p q = true → pathB q p = true → p = q) := by decide +kernel
theorem path_cuts : ∀ p ∈ pathTexts, ∀ i : Fin 6, 1 ≤ i.1 → (h : i.1 < p.size) → pathB p (p.extract 0 i.1) = ((((p[i.1 - 1]'(by omega)).toNat : Int) == 47) || (((p[i.1]'h).toNat : Int) == 47)) := by decide +kernel
theorem path_below (p r : ByteArray) (h1 : 1 ≤ p.size) (h : ((p ++ ⟨#[47]⟩) ++ r).size ≤ 65536) : pathB ((p ++ ⟨#[47]⟩) ++ r) p = true := by
  have hz : p.size ≤ 65536 := by
    rw [ByteArray.size_append, ByteArray.size_append] at h
    omega
  have e : ((p ++ ⟨#[47]⟩) ++ r).data.toList = p.data.toList ++ (47 :: r.data.toList) := by simp
  have hp : Lib.hasPrefix ((p ++ ⟨#[47]⟩) ++ r).data.toList p.data.toList = true := by
    rw [e, Lib.hasPrefix, List.isPrefixOf_iff_prefix]
    exact List.prefix_append _ _
  have hq : Lib.hasPrefix (((p ++ ⟨#[47]⟩) ++ r).data.toList.drop p.size) [47] = true := by
    rw [e, show p.size = p.data.toList.length by simp, List.drop_left]
    simp [Lib.hasPrefix]
  rw [pathB, decide_eq_true ⟨h, hz⟩, pathL, hp, hq]
  simp
  omega
def PathPost (w : World) (e : Ending) (w' : World) : Prop := ∃ s ∈ pathTexts, e = .returned (.string s) ∧ Below w.heap.size w w'
theorem path_any (b : Nat) (v : Value) (len n : Nat) (w : World) (hn : n < 900000) (h : Src b v len n w) (hb : b < w.heap.size) : Calls Try.prog 12 #[.pointer (some ⟨b, 0, none⟩)] w (SrcText b v len (n + 1) pathTexts w) := by
  have HS := Lib.hid h
  clear h
  go_enter Try.func12, Try.ntmps12
  go_wp2_with (go_at_call 20; refine (pick_new b v len n w pathTexts _ _ _ rfl rfl (by decide) (by decide) (by omega) HS.out hb).mono ?_; rintro e w' ⟨s, hs, rfl, hsrc, hg⟩; have HX := Lib.hid hsrc; have HG := Lib.hid hg; have HM := Lib.hid hs; clear hsrc hg hs)
  go_ret
  exact ⟨s, HM.out, rfl, HX.out, HG.out⟩
theorem pathDrawn_any (v : Value) (len : Nat) (w : World) (h : CodeIn w v len) : Calls Try.prog 6 #[v] w (PathPost w) := by
  have HC := Lib.hid h
  clear h
  go_enter Try.func6, Try.ntmps6
  go_wp2_with (first
    | (go_at_call 11; refine (source_any _ _ _ HC.out).mono ?_; rintro e w1 ⟨rfl, hsrc, hb⟩; have HX := Lib.hid hsrc; have HB := Lib.hid hb; clear hsrc hb)
    | (go_at_call 12; refine (path_any _ _ _ _ _ (by omega) HX.out (by have := Src.lt HX.out; omega)).mono ?_; rintro e w2 ⟨s, hs, rfl, _, hg⟩; have HG := Lib.hid hg; have HM := Lib.hid hs; clear hg hs))
  go_ret
  exact ⟨s, HM.out, rfl, below_of_own HB.out HG.out⟩
def PathLoop (W : World) (p : ByteArray) (i : Value) (wr : World) : Prop := ∃ j : Nat, j + 1 ≤ p.size ∧ i = .int .i64 ((j : Int) + 1) ∧ Below W.heap.size W wr
set_option maxHeartbeats 4000000 in
set_option maxRecDepth 100000 in
theorem walk_FnPaths (W : World) (a0 : Option Addr) (len0 cap0 : Nat) (hm0 : len0 ≤ cap0 ∧ cap0 ≤ maxLen ∧ (a0 = none → cap0 = 0)) (hc0 : len0 ≤ 4611686018427387904 → CodeIn W (.slice a0 len0 cap0) len0) (a1 : Option Addr) (len1 cap1 : Nat) (hm1 : len1 ≤ cap1 ∧ cap1 ≤ maxLen ∧ (a1 = none → cap1 = 0)) (hc1 : len1 ≤ 4611686018427387904 → CodeIn W (.slice a1 len1 cap1) len1)
    (_ : laidMetH Try.prog Rows.fnPathsRow.laid W) (_ : W.ShapedOpen Try.prog) :
    Calls Try.prog 3 #[.slice a0 len0 cap0, .slice a1 len1 cap1] W fun e w' => e = .returned (.bool true) ∧ Below W.heap.size W w' := by
  unfold maxLen at hm0 hm1
  obtain ⟨hm0, hk0, _⟩ := hm0
  obtain ⟨hm1, hk1, hnil⟩ := hm1
  by_cases h0 : 1048576 < len0
  · clear hc0 hc1
    go_enter Try.func3, Try.ntmps3
    go_wp2
    go_ret
    exact ⟨rfl, Below.refl _ _⟩
  by_cases h1 : 1048576 < len1
  · clear hc0 hc1
    go_enter Try.func3, Try.ntmps3
    go_wp2
    go_ret
    exact ⟨rfl, Below.refl _ _⟩
  have C0 := Lib.hid (hc0 (by omega))
  have C1 := Lib.hid (hc1 (by omega))
  clear hc0 hc1
  obtain ⟨k, hmin, hk1, hk2⟩ : ∃ k : Nat, min (len1 : Int) 60 = k ∧ k ≤ len1 ∧ k ≤ 60 := ⟨min len1 60, by omega, by omega, by omega⟩
  obtain ⟨T, hTs, hcv⟩ := part_string (k := k) C1.out hk1
  have h3 : (0 : Int) ≤ k := by omega
  have h4 : (k : Int) ≤ cap1 := by omega
  have h5 : T.size ≤ 60 := by omega
  have HM := Lib.hid hmin
  have HV := Lib.hid hcv
  clear hmin hcv hTs
  go_enter Try.func3, Try.ntmps3
  go_wp2_with fail
  refine (pathDrawn_any _ _ _ C0.out).mono ?_
  rintro e w1 ⟨p, hp, rfl, hb1⟩
  have B1 := Lib.hid hb1
  obtain ⟨p1, p2, p3, p4, p5, p6⟩ := path_facts p hp
  have P4 := Lib.hid p4
  have P5 := Lib.hid p5
  have P6 := Lib.hid p6
  have PC := Lib.hid (path_cuts p hp)
  have HP := Lib.hid hp
  clear p4 p5 p6 hp hb1
  go_wp2_with fail
  refine (pathDrawn_any _ _ _ (C1.out.below B1.out)).mono ?_
  rintro e w2 ⟨q, hq, rfl, hb1⟩
  have B2 := Lib.hid (B1.out.trans (hb1.mono B1.out.size))
  have Q1 := (path_facts q hq).1
  have Q6 := Lib.hid (P6.out q hq)
  clear hb1 hq B1
  have mp : Hid (p.size ≤ maxLen) := by show p.size ≤ maxLen; unfold maxLen; omega
  have mq : Hid (q.size ≤ maxLen) := by show q.size ≤ maxLen; unfold maxLen; omega
  have md : Hid ((defaultB p).size ≤ maxLen) := by show (defaultB p).size ≤ maxLen; unfold maxLen; omega
  have e1 : ((defaultB p).toList == (defaultB p).toList) = true := seq_true rfl
  go_wp2_with fail
  refine (implDefault p _ mp.out).mono ?_
  rintro e w3 ⟨rfl, hb1⟩
  have B3 := Lib.hid (B2.out.trans (hb1.mono B2.out.size))
  clear hb1 B2
  go_wp2_with fail
  refine (specDefault p _ mp.out).mono ?_
  rintro e w' ⟨rfl, rfl⟩
  go_wp2_with fail
  refine (implPath p _ _ mp.out md.out).mono ?_
  rintro e w' ⟨rfl, rfl⟩
  rw [P4.out]
  go_wp2_with fail
  refine (implPath p p _ mp.out mp.out).mono ?_
  rintro e w' ⟨rfl, rfl⟩
  rw [P5.out]
  go_wp2_with fail
  refine (implPath p q _ mp.out mq.out).mono ?_
  rintro e w' ⟨rfl, rfl⟩
  go_wp2_with fail
  refine (specPath p q _ mp.out mq.out).mono ?_
  rintro e w' ⟨rfl, rfl⟩
  have fpq : Hid ((pathB p q = true ∧ pathB q p = true → p = q)) := fun h => Q6.out h.1 h.2
  have nq : (pathB p q != pathB p q) = false := by simp
  go_wp2_with fail
  refine (implPath p q _ mp.out mq.out).mono ?_
  rintro e w' ⟨rfl, rfl⟩
  cases g1 : pathB p q with
  | true =>
    go_wp2_with fail
    refine (implPath q p _ mq.out mp.out).mono ?_
    rintro e w' ⟨rfl, rfl⟩
    cases g2 : pathB q p with
    | true =>
      have fe := seq_true (fpq.out ⟨g1, g2⟩)
      clear g1 g2
      go_wp2_with fail
      go_loopw [8] (fun i wr => PathLoop W p i wr) (fun i _ => p.size - (intOf i).toNat)
      case atStart => exact ⟨0, by omega, rfl, B3.out⟩
      case round =>
        obtain ⟨j, hj2, rfl, hb⟩ := hrel
        have B4 := Lib.hid hb
        clear hb
        by_cases hlt : j + 1 < p.size
        · have fc := PC.out ⟨j + 1, by omega⟩ (by show 1 ≤ j + 1; omega) hlt
          have s0 : IntKind.i64.wrap ((j : Int) + 1 - 1) = (j : Int) := by rw [Int.add_sub_cancel]; exact IntWalk.i64_in _ (by omega)
          have s1 : IntKind.i64.wrap (j : Int) = (j : Int) := IntWalk.i64_in _ (by omega)
          have s2 : (0 : Int) ≤ (j : Int) + 1 := by omega
          have s3 : ((j : Int) + 1).toNat = j + 1 := by omega
          have s4 : (j : Int) + 1 < p.size := by omega
          have s5 : j < p.size := by omega
          have s6 : (j : Int) + 1 ≤ p.size := by omega
          have mc : Hid ((p.extract 0 (j + 1)).size ≤ maxLen) := by show (p.extract 0 (j + 1)).size ≤ maxLen; simp; unfold maxLen; omega
          have FC := Lib.hid fc
          clear fc
          cases b1 : (((p[j]'s5).toNat : Int) == 47) with
          | true =>
            have FT : Hid (pathB p (p.extract 0 (j + 1)) = true) := by show _ = true; exact FC.out.trans (by rw [Bool.or_eq_true]; exact .inl b1)
            go_wp2_with fail
            go_quiet ((go_at_call 9; exact Calls.quiet_of_same ((implPath p (p.extract 0 (j + 1)) _ mp.out mc.out).mono fun e w' h => ⟨by rw [h.1, FT.out], h.2.symm⟩)))
            clear s0 s1 s3
            go_wp2_with fail
            go_roundw
            case rel => exact ⟨j + 1, by omega, by go_num, below_drewN B4.out _⟩
            case measure => simp [intOf]; omega
          | false =>
            cases b2 : (((p[j + 1]'hlt).toNat : Int) == 47) with
            | true =>
              have FT : Hid (pathB p (p.extract 0 (j + 1)) = true) := by
                show _ = true
                refine FC.out.trans ?_
                rw [Bool.or_eq_true]
                exact .inr b2
              go_wp2_with fail
              go_quiet ((go_at_call 9; exact Calls.quiet_of_same ((implPath p (p.extract 0 (j + 1)) _ mp.out mc.out).mono fun e w' h => ⟨by rw [h.1, FT.out], h.2.symm⟩)))
              go_wp2_with fail
              go_roundw
              case rel => exact ⟨j + 1, by omega, by go_num, below_drewN B4.out _⟩
              case measure => simp [intOf]; omega
            | false =>
              have FT : Hid (pathB p (p.extract 0 (j + 1)) = false) := by
                show _ = false
                refine FC.out.trans ?_
                rw [Bool.or_eq_false_iff]
                exact ⟨b1, b2⟩
              go_wp2_with fail
              go_quiet ((go_at_call 9; exact Calls.quiet_of_same ((implPath p (p.extract 0 (j + 1)) _ mp.out mc.out).mono fun e w' h => ⟨by rw [h.1, FT.out], h.2.symm⟩)))
              go_wp2_with fail
              go_roundw
              case rel => exact ⟨j + 1, by omega, by go_num, below_drewN B4.out _⟩
              case measure => simp [intOf]; omega
        · have hmin := HM.out
          have hcv := HV.out wr cap1 B4.out
          have mT : Hid (T.size ≤ maxLen) := by show T.size ≤ maxLen; unfold maxLen; omega
          have hz2 : ((p ++ ⟨#[47]⟩) ++ T).size ≤ 67 := by
            rw [ByteArray.size_append, ByteArray.size_append]
            show (p.size + 1) + T.size ≤ 67
            omega
          have mz : Hid (((p ++ ⟨#[47]⟩) ++ T).size ≤ maxLen) := by show ((p ++ ⟨#[47]⟩) ++ T).size ≤ maxLen; unfold maxLen; omega
          have HPB := Lib.hid (path_below p T p2 (by omega))
          have e2 : ((defaultB T).toList == (defaultB T).toList) = true := seq_true rfl
          go_wp2_with fail
          refine (implDefault T _ mT.out).mono ?_
          rintro e w4 ⟨rfl, hb1⟩
          have B5 := Lib.hid (B4.out.trans (hb1.mono B4.out.size))
          clear hb1 hcv hmin
          go_wp2_with fail
          refine (specDefault T _ mT.out).mono ?_
          rintro e w' ⟨rfl, rfl⟩
          go_wp2_with fail
          refine (implPath _ p _ mz.out mp.out).mono ?_
          rintro e w' ⟨rfl, rfl⟩
          rw [HPB.out]
          go_wp2_with fail
          go_ret
          exact ⟨rfl, B5.out⟩
    | false =>
      clear g1 g2
      go_wp2_with fail
      go_loopw [8] (fun i wr => PathLoop W p i wr) (fun i _ => p.size - (intOf i).toNat)
      case atStart => exact ⟨0, by omega, rfl, B3.out⟩
      case round =>
        obtain ⟨j, hj2, rfl, hb⟩ := hrel
        have B4 := Lib.hid hb
        clear hb
        by_cases hlt : j + 1 < p.size
        · have fc := PC.out ⟨j + 1, by omega⟩ (by show 1 ≤ j + 1; omega) hlt
          have s0 : IntKind.i64.wrap ((j : Int) + 1 - 1) = (j : Int) := by rw [Int.add_sub_cancel]; exact IntWalk.i64_in _ (by omega)
          have s1 : IntKind.i64.wrap (j : Int) = (j : Int) := IntWalk.i64_in _ (by omega)
          have s2 : (0 : Int) ≤ (j : Int) + 1 := by omega
          have s3 : ((j : Int) + 1).toNat = j + 1 := by omega
          have s4 : (j : Int) + 1 < p.size := by omega
          have s5 : j < p.size := by omega
          have s6 : (j : Int) + 1 ≤ p.size := by omega
          have mc : Hid ((p.extract 0 (j + 1)).size ≤ maxLen) := by show (p.extract 0 (j + 1)).size ≤ maxLen; simp; unfold maxLen; omega
          have FC := Lib.hid fc
          clear fc
          cases b1 : (((p[j]'s5).toNat : Int) == 47) with
          | true =>
            have FT : Hid (pathB p (p.extract 0 (j + 1)) = true) := by show _ = true; exact FC.out.trans (by rw [Bool.or_eq_true]; exact .inl b1)
            go_wp2_with fail
            go_quiet ((go_at_call 9; exact Calls.quiet_of_same ((implPath p (p.extract 0 (j + 1)) _ mp.out mc.out).mono fun e w' h => ⟨by rw [h.1, FT.out], h.2.symm⟩)))
            clear s0 s1 s3
            go_wp2_with fail
            go_roundw
            case rel => exact ⟨j + 1, by omega, by go_num, below_drewN B4.out _⟩
            case measure => simp [intOf]; omega
          | false =>
            cases b2 : (((p[j + 1]'hlt).toNat : Int) == 47) with
            | true =>
              have FT : Hid (pathB p (p.extract 0 (j + 1)) = true) := by
                show _ = true
                refine FC.out.trans ?_
                rw [Bool.or_eq_true]
                exact .inr b2
              go_wp2_with fail
              go_quiet ((go_at_call 9; exact Calls.quiet_of_same ((implPath p (p.extract 0 (j + 1)) _ mp.out mc.out).mono fun e w' h => ⟨by rw [h.1, FT.out], h.2.symm⟩)))
              go_wp2_with fail
              go_roundw
              case rel => exact ⟨j + 1, by omega, by go_num, below_drewN B4.out _⟩
              case measure => simp [intOf]; omega
            | false =>
              have FT : Hid (pathB p (p.extract 0 (j + 1)) = false) := by
                show _ = false
                refine FC.out.trans ?_
                rw [Bool.or_eq_false_iff]
                exact ⟨b1, b2⟩
              go_wp2_with fail
              go_quiet ((go_at_call 9; exact Calls.quiet_of_same ((implPath p (p.extract 0 (j + 1)) _ mp.out mc.out).mono fun e w' h => ⟨by rw [h.1, FT.out], h.2.symm⟩)))
              go_wp2_with fail
              go_roundw
              case rel => exact ⟨j + 1, by omega, by go_num, below_drewN B4.out _⟩
              case measure => simp [intOf]; omega
        · have hmin := HM.out
          have hcv := HV.out wr cap1 B4.out
          have mT : Hid (T.size ≤ maxLen) := by show T.size ≤ maxLen; unfold maxLen; omega
          have hz2 : ((p ++ ⟨#[47]⟩) ++ T).size ≤ 67 := by
            rw [ByteArray.size_append, ByteArray.size_append]
            show (p.size + 1) + T.size ≤ 67
            omega
          have mz : Hid (((p ++ ⟨#[47]⟩) ++ T).size ≤ maxLen) := by show ((p ++ ⟨#[47]⟩) ++ T).size ≤ maxLen; unfold maxLen; omega
          have HPB := Lib.hid (path_below p T p2 (by omega))
          have e2 : ((defaultB T).toList == (defaultB T).toList) = true := seq_true rfl
          go_wp2_with fail
          refine (implDefault T _ mT.out).mono ?_
          rintro e w4 ⟨rfl, hb1⟩
          have B5 := Lib.hid (B4.out.trans (hb1.mono B4.out.size))
          clear hb1 hcv hmin
          go_wp2_with fail
          refine (specDefault T _ mT.out).mono ?_
          rintro e w' ⟨rfl, rfl⟩
          go_wp2_with fail
          refine (implPath _ p _ mz.out mp.out).mono ?_
          rintro e w' ⟨rfl, rfl⟩
          rw [HPB.out]
          go_wp2_with fail
          go_ret
          exact ⟨rfl, B5.out⟩
  | false =>
    clear g1
    go_wp2_with fail
    go_loopw [8] (fun i wr => PathLoop W p i wr) (fun i _ => p.size - (intOf i).toNat)
    case atStart => exact ⟨0, by omega, rfl, B3.out⟩
    case round =>
      obtain ⟨j, hj2, rfl, hb⟩ := hrel
      have B4 := Lib.hid hb
      clear hb
      by_cases hlt : j + 1 < p.size
      · have fc := PC.out ⟨j + 1, by omega⟩ (by show 1 ≤ j + 1; omega) hlt
        have s0 : IntKind.i64.wrap ((j : Int) + 1 - 1) = (j : Int) := by rw [Int.add_sub_cancel]; exact IntWalk.i64_in _ (by omega)
        have s1 : IntKind.i64.wrap (j : Int) = (j : Int) := IntWalk.i64_in _ (by omega)
        have s2 : (0 : Int) ≤ (j : Int) + 1 := by omega
        have s3 : ((j : Int) + 1).toNat = j + 1 := by omega
        have s4 : (j : Int) + 1 < p.size := by omega
        have s5 : j < p.size := by omega
        have s6 : (j : Int) + 1 ≤ p.size := by omega
        have mc : Hid ((p.extract 0 (j + 1)).size ≤ maxLen) := by show (p.extract 0 (j + 1)).size ≤ maxLen; simp; unfold maxLen; omega
        have FC := Lib.hid fc
        clear fc
        cases b1 : (((p[j]'s5).toNat : Int) == 47) with
        | true =>
          have FT : Hid (pathB p (p.extract 0 (j + 1)) = true) := by show _ = true; exact FC.out.trans (by rw [Bool.or_eq_true]; exact .inl b1)
          go_wp2_with fail
          go_quiet ((go_at_call 9; exact Calls.quiet_of_same ((implPath p (p.extract 0 (j + 1)) _ mp.out mc.out).mono fun e w' h => ⟨by rw [h.1, FT.out], h.2.symm⟩)))
          clear s0 s1 s3
          go_wp2_with fail
          go_roundw
          case rel => exact ⟨j + 1, by omega, by go_num, below_drewN B4.out _⟩
          case measure => simp [intOf]; omega
        | false =>
          cases b2 : (((p[j + 1]'hlt).toNat : Int) == 47) with
          | true =>
            have FT : Hid (pathB p (p.extract 0 (j + 1)) = true) := by
              show _ = true
              refine FC.out.trans ?_
              rw [Bool.or_eq_true]
              exact .inr b2
            go_wp2_with fail
            go_quiet ((go_at_call 9; exact Calls.quiet_of_same ((implPath p (p.extract 0 (j + 1)) _ mp.out mc.out).mono fun e w' h => ⟨by rw [h.1, FT.out], h.2.symm⟩)))
            go_wp2_with fail
            go_roundw
            case rel => exact ⟨j + 1, by omega, by go_num, below_drewN B4.out _⟩
            case measure => simp [intOf]; omega
          | false =>
            have FT : Hid (pathB p (p.extract 0 (j + 1)) = false) := by
              show _ = false
              refine FC.out.trans ?_
              rw [Bool.or_eq_false_iff]
              exact ⟨b1, b2⟩
            go_wp2_with fail
            go_quiet ((go_at_call 9; exact Calls.quiet_of_same ((implPath p (p.extract 0 (j + 1)) _ mp.out mc.out).mono fun e w' h => ⟨by rw [h.1, FT.out], h.2.symm⟩)))
            go_wp2_with fail
            go_roundw
            case rel => exact ⟨j + 1, by omega, by go_num, below_drewN B4.out _⟩
            case measure => simp [intOf]; omega
      · have hmin := HM.out
        have hcv := HV.out wr cap1 B4.out
        have mT : Hid (T.size ≤ maxLen) := by show T.size ≤ maxLen; unfold maxLen; omega
        have hz2 : ((p ++ ⟨#[47]⟩) ++ T).size ≤ 67 := by
          rw [ByteArray.size_append, ByteArray.size_append]
          show (p.size + 1) + T.size ≤ 67
          omega
        have mz : Hid (((p ++ ⟨#[47]⟩) ++ T).size ≤ maxLen) := by show ((p ++ ⟨#[47]⟩) ++ T).size ≤ maxLen; unfold maxLen; omega
        have HPB := Lib.hid (path_below p T p2 (by omega))
        have e2 : ((defaultB T).toList == (defaultB T).toList) = true := seq_true rfl
        go_wp2_with fail
        refine (implDefault T _ mT.out).mono ?_
        rintro e w4 ⟨rfl, hb1⟩
        have B5 := Lib.hid (B4.out.trans (hb1.mono B4.out.size))
        clear hb1 hcv hmin
        go_wp2_with fail
        refine (specDefault T _ mT.out).mono ?_
        rintro e w' ⟨rfl, rfl⟩
        go_wp2_with fail
        refine (implPath _ p _ mz.out mp.out).mono ?_
        rintro e w' ⟨rfl, rfl⟩
        rw [HPB.out]
        go_wp2_with fail
        go_ret
        exact ⟨rfl, B5.out⟩
end Go.Proofs.Ytmmmipkccnmmdaa
