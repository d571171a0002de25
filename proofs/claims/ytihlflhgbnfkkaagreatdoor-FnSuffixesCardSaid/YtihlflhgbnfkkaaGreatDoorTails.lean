/- The last labels of a host, in the program and in the model. No condition of its own. -/
import Derived.Test.YtihlflhgbnfkkaaGreatDoorMatch
import Derived.Test.YtihlflhgbnfkkaaGreatDoorSufMath
import Derived.Test.YtihlflhgbnfkkaaGreatDoorRule
import Derived.Test.YtihlflhgbnfkkaaGreatDoorArgs
import Derived.Lib.SplitLaws
namespace Go.Proofs.YtihlflhgbnfkkaaGreatDoor
open Go.ChangeShapes Go.WideShapes Go.ChangeAt Go.WideMaps Go.WideElems Go.RowKit

theorem join_lib : ∀ qs : List (List UInt8), Lib.join qs [46] = joinL qs
  | [] => rfl
  | [x] => by simp [Lib.join, joinL]
  | x :: y :: r => by
    have ih := join_lib (y :: r)
    rw [joinL, ← ih]
    simp [Lib.join, List.intercalate]
theorem cells_drop {w : World} {g : Nat} {ps : List (List UInt8)} (h : ∀ j (hj : j < ps.length), w.cell? ⟨g, j, none⟩ = some (strV ps[j])) (o : Nat) : ∀ (j : Nat) (x : ByteArray), ((ps.drop o).map tOf)[j]? = some x → w.cell? ⟨g, o + j, none⟩ = some (.string x) := by
  intro j x hx
  rw [List.getElem?_map, List.getElem?_drop] at hx
  by_cases hj : o + j < ps.length
  · rw [List.getElem?_eq_getElem hj, Option.map_some, Option.some.injEq] at hx
    subst hx
    exact h _ hj
  · rw [List.getElem?_eq_none (by omega)] at hx
    cases hx
theorem join_len (ps : List (List UInt8)) : (joinL ps).length ≤ lenL ps + ps.length := by
  induction ps with
  | nil => exact Nat.zero_le _
  | cons x r ih =>
    by_cases hr : r = []
    · subst hr
      simp [joinL, lenL]
    · rw [joinL_cons hr, List.length_append, List.length_cons, List.length_cons]
      have e : lenL (x :: r) = x.length + lenL r := by simp [lenL]
      omega
theorem lenL_drop (ps : List (List UInt8)) (k : Nat) : lenL (ps.drop k) ≤ lenL ps := by
  have := lenL_append (ps.take k) (ps.drop k)
  rw [List.take_append_drop] at this
  omega
theorem tail_eq (s : ByteArray) (n o : Nat) (h : o = labN s.data.toList - n) : (⟨(Lib.join ((((cutL 46 s.data.toList).drop o).map tOf).map (·.data.toList)) (⟨#[46]⟩ : ByteArray).data.toList).toArray⟩ : ByteArray) = tailB s n := by
  have e : (((cutL 46 s.data.toList).drop o).map tOf).map (·.data.toList) = (cutL 46 s.data.toList).drop o := by
    rw [List.map_map]
    conv => rhs; rw [← List.map_id ((cutL 46 s.data.toList).drop o)]
    apply List.map_congr_left
    intro x _
    exact tOf_data x
  rw [e, show (⟨#[46]⟩ : ByteArray).data.toList = [46] from rfl, join_lib, tailB, endB, endL, h]
theorem drop_map (qs : List (List UInt8)) : (qs.map tOf).map (·.data.toList) = qs := by
  rw [List.map_map]
  conv => rhs; rw [← List.map_id qs]
  apply List.map_congr_left
  intro x _
  exact tOf_data x
set_option maxHeartbeats 1000000 in
set_option maxRecDepth 100000 in
theorem last_any (s : ByteArray) (n : Nat) (w : World) (hs : s.size ≤ 40) (h0 : 0 < n) (hn : n ≤ 100) (hm : MaxAt w) : Calls Tryz.prog 124 #[.string s, .int .i64 n] w fun e w' => e = .returned (.string (tailB s n)) ∧ Below w.heap.size w w' := by
  have HM := Lib.hid hm
  clear hm
  have hlen := cutL_le 46 s.data.toList
  have hsl : s.data.toList.length = s.size := by simp
  have hpos : 1 ≤ (cutL 46 s.data.toList).length := cutL_pos _ _
  have hsum := cutL_size 46 s.data.toList
  go_enter Tryz.func124, Tryz.ntmps124
  go_wp2_with fail
  refine (labels_any s _ (by omega) HM.out).mono ?_
  rintro e w1 ⟨v, rfl, ⟨g, cap, rfl, _, hg2, hcap, hcm, _, hcells⟩, hb⟩
  have HB := Lib.hid hb
  have HC := Lib.hid hcells
  clear hb hcells
  unfold maxLen at hcm
  obtain ⟨L, hL⟩ : ∃ L, (cutL 46 s.data.toList).length = L := ⟨_, rfl⟩
  rw [hL] at hcap hlen hpos hsum ⊢
  have hbound : ∀ o, (Lib.join ((((cutL 46 s.data.toList).drop o).map tOf).map (·.data.toList)) (⟨#[46]⟩ : ByteArray).data.toList).length ≤ 140737488355328 := fun o => by
    rw [drop_map, show (⟨#[46]⟩ : ByteArray).data.toList = [46] from rfl, join_lib]
    have h1 := join_len ((cutL 46 s.data.toList).drop o)
    have h2 := lenL_drop (cutL 46 s.data.toList) o
    rw [List.length_drop, hL] at h1
    omega
  by_cases hk : n < L
  · have hmx : max 0 ((L : Int) - (n : Int)) = ((L - n : Nat) : Int) := by omega
    have hJ := Tryz.strings_Join g (L - n) (cap - (L - n)) (((cutL 46 s.data.toList).drop (L - n)).map tOf) ⟨#[46]⟩ w1 (cells_drop HC.out (L - n)) hg2 (by rw [List.length_map, List.length_drop]; omega) (by rw [List.length_map, List.length_drop]; omega) (hbound _)
    rw [tail_eq s n (L - n) (by unfold labN; rw [hL])] at hJ
    rw [List.length_map, List.length_drop, hL] at hJ
    have HJ := Lib.hid hJ
    clear hJ
    go_wp2_with fail
    refine HJ.out.mono ?_
    rintro e w2 ⟨rfl, hb⟩
    have HB2 := Lib.hid (HB.out.trans (hb.mono HB.out.size))
    clear hb
    go_wp2_with fail
    go_ret
    exact ⟨rfl, HB2.out⟩
  · have hmx : max 0 ((L : Int) - (n : Int)) = 0 := by omega
    have hJ := Tryz.strings_Join g 0 cap (((cutL 46 s.data.toList).drop 0).map tOf) ⟨#[46]⟩ w1 (cells_drop HC.out 0) hg2 (by rw [List.length_map, List.length_drop]; omega) (by rw [List.length_map, List.length_drop]; omega) (hbound _)
    rw [tail_eq s n 0 (by unfold labN; rw [hL]; omega)] at hJ
    rw [List.length_map, List.length_drop, hL, Nat.sub_zero] at hJ
    have HJ := Lib.hid hJ
    clear hJ
    go_wp2_with fail
    refine HJ.out.mono ?_
    rintro e w2 ⟨rfl, hb⟩
    have HB2 := Lib.hid (HB.out.trans (hb.mono HB.out.size))
    clear hb
    go_wp2_with fail
    go_ret
    exact ⟨rfl, HB2.out⟩
theorem join_snoc : ∀ (qs : List (List UInt8)) (x : List UInt8), joinL (qs ++ [x]) = if qs = [] then x else joinL qs ++ 46 :: x
  | [], x => rfl
  | [y], x => by simp [joinL]
  | y :: z :: r, x => by
    have ih := join_snoc (z :: r) x
    rw [if_neg (by simp)] at ih
    rw [if_neg (by simp), List.cons_append, joinL_cons (x := y) (qs := z :: r ++ [x]) (by simp), ih, joinL_cons (x := y) (qs := z :: r) (by simp)]
    simp
theorem join_take {qs : List (List UInt8)} {k : Nat} (h : k < qs.length) : joinL (qs.take (k + 1)) = (if k = 0 then [] else joinL (qs.take k) ++ [46]) ++ qs[k] := by
  rw [List.take_succ_eq_append_getElem h, join_snoc]
  by_cases h0 : k = 0
  · subst h0
    simp
  · rw [if_neg h0, if_neg (by
      intro e
      have := congrArg List.length e
      rw [List.length_take, List.length_nil] at this
      omega)]
    simp
theorem join_part (qs : List (List UInt8)) (k : Nat) : (joinL (qs.take k)).length ≤ lenL qs + qs.length := by
  have h1 := join_len (qs.take k)
  have h2 := lenL_append (qs.take k) (qs.drop k)
  rw [List.take_append_drop] at h2
  rw [List.length_take] at h1
  omega
theorem tOf_app (a b : List UInt8) : tOf a ++ tOf b = tOf (a ++ b) := by
  apply bytes_inj
  simp [tOf]
set_option maxHeartbeats 1000000 in
set_option maxRecDepth 100000 in
theorem join_any (g o c : Nat) (qs : List (List UInt8)) (w : World) (hc : ∀ j (hj : j < qs.length), w.cell? ⟨g, o + j, none⟩ = some (strV qs[j])) (hl : lenL qs + qs.length ≤ 1000000) :
    Calls Tryz.prog 175 #[.slice (some ⟨g, o, none⟩) qs.length c, .string ⟨#[46]⟩] w fun e w' => e = .returned (.string (tOf (joinL qs))) ∧ w = w' := by
  have HC := Lib.hid hc
  clear hc
  have h46 : (⟨#[46]⟩ : ByteArray).size = 1 := rfl
  go_enter Tryz.func175, Tryz.ntmps175
  go_wp2
  go_loopw [5, 6] (fun out i wr => ∃ (k : Nat) (t : ByteArray), k ≤ qs.length ∧ i = .int .i64 k ∧ out = .string t ∧ t = tOf (joinL (qs.take k)) ∧ t.size ≤ 1000000 ∧ w = wr) (fun _ i _ => qs.length - (intOf i).toNat)
  case atStart => exact ⟨0, ⟨#[]⟩, Nat.zero_le _, rfl, rfl, rfl, Nat.zero_le _, rfl⟩
  case round =>
    obtain ⟨k, t, hk, rfl, rfl, ht, hts, rfl⟩ := hrel
    by_cases hlt : k < qs.length
    · obtain ⟨u, hu⟩ : ∃ u : ByteArray, strV qs[k] = .string u := ⟨_, rfl⟩
      have HU : Hid (u = tOf qs[k]) := Lib.hid (by
        have := Value.string.inj hu
        rw [← this]
        rfl)
      have c1 : w.cell? ⟨g, o + k, none⟩ = some (.string u) := by rw [← hu]; exact HC.out k hlt
      have hus : u.size ≤ 1000000 := by
        have := lenL_mem (List.getElem_mem hlt)
        rw [HU.out, tOf_size]
        omega
      have HT := Lib.hid ht
      have hp := join_part qs (k + 1)
      have s1 : (k : Int) < qs.length := by omega
      have HJ := Lib.hid (join_take hlt)
      clear hu ht
      by_cases h0 : k = 0
      · subst h0
        rw [Nat.add_zero] at c1
        have hsz : (t ++ u).size ≤ 1000000 := by rw [ByteArray.size_append, HT.out, tOf_size]; simp [joinL]; exact hus
        go_wp2
        go_roundw
        case rel =>
          refine ⟨1, t ++ u, by omega, by go_num, rfl, ?_, hsz, trivial⟩
          rw [HJ.out, if_pos rfl, HT.out, HU.out, tOf_app]
          rfl
        case measure => simp [intOf]; omega
      · have hk0 : (0 : Int) < k := by omega
        have e2 : Hid (t ++ ⟨#[46]⟩ ++ u = tOf (joinL (qs.take (k + 1)))) := Lib.hid (by
          rw [HJ.out, if_neg h0, HT.out, HU.out, show (⟨#[46]⟩ : ByteArray) = tOf [46] from rfl, tOf_app, tOf_app])
        have hsz : (t ++ ⟨#[46]⟩ ++ u).size ≤ 1000000 := by rw [e2.out, tOf_size]; omega
        go_wp2
        go_roundw
        case rel => exact ⟨k + 1, _, by omega, by go_num, rfl, e2.out, hsz, trivial⟩
        case measure => simp [intOf]; omega
    · obtain rfl : k = qs.length := by omega
      rw [List.take_of_length_le (Nat.le_refl _)] at ht
      have HT := Lib.hid ht
      clear ht
      go_wp2
      go_ret
      exact ⟨by rw [HT.out]; rfl, rfl⟩
theorem own_cells {w : World} {B : Nat} {v : Value} {ps : List (List UInt8)} (h : w.ownsRow B 9 1 v ps.length (ps.map strV)) (h1 : 1 ≤ ps.length) : ∃ g cap, v = .slice (some ⟨g, 0, none⟩) ps.length cap ∧ ps.length ≤ cap ∧ cap ≤ maxLen ∧ ∀ j (hj : j < ps.length), w.cell? ⟨g, j, none⟩ = some (strV ps[j]) := by
  obtain ⟨g, cap, rfl, _, _, h2, h3, _, h4⟩ := texts_of_own h1 h
  exact ⟨g, cap, rfl, h2, h3, h4⟩
set_option maxHeartbeats 1000000 in
set_option maxRecDepth 100000 in
theorem specTail (s : ByteArray) (n : Nat) (w : World) (hs : s.size ≤ 40) (h0 : 0 < n) (hn : n ≤ 100) : Calls Tryz.prog 128 #[.string s, .int .i64 n] w fun e w' => e = .returned (.string (tailB s n)) ∧ Below w.heap.size w w' := by
  have hlen := cutL_le 46 s.data.toList
  have hsl : s.data.toList.length = s.size := by simp
  have hpos : 1 ≤ (cutL 46 s.data.toList).length := cutL_pos _ _
  have hsum := cutL_size 46 s.data.toList
  go_enter Tryz.func128, Tryz.ntmps128
  go_wp2_with fail
  refine (cut_any s 46 _ (by omega)).mono ?_
  rintro e w1 ⟨v, rfl, hown, hb⟩
  obtain ⟨g, cap, rfl, hcap, hcm, hcells⟩ := own_cells hown hpos
  have HB := Lib.hid hb
  have HC := Lib.hid hcells
  clear hb hcells hown
  unfold maxLen at hcm
  obtain ⟨L, hL⟩ : ∃ L, (cutL 46 s.data.toList).length = L := ⟨_, rfl⟩
  rw [hL] at hcap hlen hpos hsum ⊢
  by_cases hk : n < L
  · have hsub : (L : Int) - (n : Int) = ((L - n : Nat) : Int) := by omega
    have hge : ¬ ((L : Int) ≤ n) := by omega
    have hJ := join_any g (L - n) (cap - (L - n)) ((cutL 46 s.data.toList).drop (L - n)) w1 (fun j hj => by
      rw [List.getElem_drop]
      rw [List.length_drop] at hj
      exact HC.out (L - n + j) (by omega)) (by
      have h2 := lenL_drop (cutL 46 s.data.toList) (L - n)
      rw [List.length_drop, hL]
      omega)
    rw [show tOf (joinL ((cutL 46 s.data.toList).drop (L - n))) = tailB s n by rw [tailB, endB, endL, labN, hL]; rfl] at hJ
    rw [List.length_drop, hL] at hJ
    have HJ := Lib.hid hJ
    clear hJ
    go_wp2_with fail
    refine HJ.out.mono ?_
    rintro e w2 ⟨rfl, rfl⟩
    go_wp2_with fail
    go_ret
    exact ⟨rfl, HB.out⟩
  · have hge : (L : Int) ≤ n := by omega
    have HE := Lib.hid (tail_all (s := s) (n := n) (by unfold labN; omega))
    go_wp2_with fail
    go_ret
    exact ⟨by rw [HE.out]; rfl, HB.out⟩
end Go.Proofs.YtihlflhgbnfkkaaGreatDoor
