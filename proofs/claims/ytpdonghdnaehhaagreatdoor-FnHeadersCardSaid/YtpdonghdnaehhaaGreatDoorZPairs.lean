/- ReadPairs of the program and of the model; the law's walk. No condition of its own. -/
import Derived.Test.YtpdonghdnaehhaaGreatDoorZSplit
import Derived.Test.YtpdonghdnaehhaaGreatDoorZGb
import Derived.Test.YtpdonghdnaehhaaGreatDoorZSplitAny
import Derived.Test.YtpdonghdnaehhaaGreatDoorZGc
import Derived.Stop.LaidErr
import Derived.Laws.AppendOwn
import Derived.OwnWalk
namespace Go.Proofs.YtpdonghdnaehhaaGreatDoor
open Go.ChangeShapes Go.WideShapes Go.ChangeAt Go.WideMaps Go.WideElems Go.RowKit

/-- The name and the value of a part. -/
def nB (t : ByteArray) : ByteArray := if cutB t 61 then leftB t 61 else ⟨#[]⟩
def vB (t : ByteArray) : ByteArray := if cutB t 61 then rightB t 61 else leftB t 61
theorem hit_cut {t : ByteArray} (h : t.size ≤ 65536) (c : UInt8) : cutB t c = hitL c t.data.toList := by
  unfold cutB hitL findB
  simp [h]
theorem left_hit {t : ByteArray} {c : UInt8} (h : cutB t c = true) : (leftB t c).data.toList = t.data.toList.take (findB t c) := by
  simp only [cutB, decide_eq_true_eq] at h
  rw [leftB, if_pos h.1, if_pos h.2, Lib.extract_data]
  simp
theorem right_hit {t : ByteArray} {c : UInt8} (h : cutB t c = true) : (rightB t c).data.toList = t.data.toList.drop (findB t c + 1) := by
  simp only [cutB, decide_eq_true_eq] at h
  rw [rightB, if_pos h, Lib.extract_data, List.take_of_length_le]
  simp
theorem left_miss {t : ByteArray} {c : UInt8} (hl : t.size ≤ 65536) (h : cutB t c = false) : leftB t c = t := by
  simp only [cutB, decide_eq_false_iff_not] at h
  rw [leftB, if_pos hl, if_neg (fun h2 => h ⟨hl, h2⟩)]
theorem nB_data {t : ByteArray} (hl : t.size ≤ 65536) : (nB t).data.toList = nameL t.data.toList := by
  unfold nB nameL
  rw [hit_cut hl]
  cases h : hitL 61 t.data.toList with
  | true => exact left_hit ((hit_cut hl 61).trans h)
  | false => rfl
theorem vB_data {t : ByteArray} (hl : t.size ≤ 65536) : (vB t).data.toList = valL t.data.toList := by
  unfold vB valL
  rw [hit_cut hl]
  cases h : hitL 61 t.data.toList with
  | true => exact right_hit ((hit_cut hl 61).trans h)
  | false => rw [if_neg (by simp), if_neg (by simp), left_miss hl ((hit_cut hl 61).trans h)]
theorem left_le (t : ByteArray) (c : UInt8) : (leftB t c).size ≤ t.size := by
  rw [leftB]
  split
  · split
    · simp
      omega
    · exact Nat.le_refl _
  · exact Nat.zero_le _
theorem right_le (t : ByteArray) (c : UInt8) : (rightB t c).size ≤ t.size := by
  rw [rightB]
  split
  · simp
  · exact Nat.zero_le _
theorem nB_le (t : ByteArray) : (nB t).size ≤ t.size := by
  unfold nB
  split
  · exact left_le _ _
  · exact Nat.zero_le _
theorem vB_le (t : ByteArray) : (vB t).size ≤ t.size := by
  unfold vB
  split
  · exact right_le _ _
  · exact left_le _ _
theorem two_end {a b a' b' : ByteArray} (h : a = a') (h' : b = b') : Ending.returned (.tuple #[.string a, .string b]) = .returned (.tuple #[.string a', .string b']) := by rw [h, h']
theorem pairOf_any (t : ByteArray) (w : World) (hs : t.size ≤ maxLen) : Calls Tryz.prog 73 #[.string t] w fun e w' => e = .returned (.tuple #[.string (nB t), .string (vB t)]) ∧ Below w.heap.size w w' := by
  have hs0 := Lib.hid hs
  clear hs
  cases h : cutB t 61 with
  | true =>
    have HH := Lib.hid h
    clear h
    go_enter Tryz.func73, Tryz.ntmps73
    go_wp2_with (go_at_call 76; refine (implSplit t 61 _ hs0.out).mono ?_; rintro e w1 ⟨rfl, hb⟩; rw [HH.out]; have HB := Lib.hid hb; clear hb)
    go_ret2
    exact ⟨two_end (by simp [nB, HH.out]) (by simp [vB, HH.out]), HB.out⟩
  | false =>
    have HH := Lib.hid h
    clear h
    go_enter Tryz.func73, Tryz.ntmps73
    go_wp2_with (go_at_call 76; refine (implSplit t 61 _ hs0.out).mono ?_; rintro e w1 ⟨rfl, hb⟩; rw [HH.out]; have HB := Lib.hid hb; clear hb)
    go_ret2
    exact ⟨two_end (by simp [nB, HH.out]) (by simp [vB, HH.out]), HB.out⟩
/-- What strings.CutPrefix answers at a blank. -/
theorem blankCut_any (t : ByteArray) (w : World) : Calls Tryz.prog 87 #[.string t, .string ⟨#[32]⟩] w fun e w' => e = .returned (.tuple #[.string (if okP t.data.toList then t.extract 1 t.size else t), .bool (okP t.data.toList)]) ∧ w = w' := by
  refine (Tryz.strings_CutPrefix t ⟨#[32]⟩ w).mono ?_
  rintro e w' ⟨rfl, rfl⟩
  refine ⟨?_, rfl⟩
  have hp : Lib.hasPrefix t.data.toList [32] = okP t.data.toList := by
    unfold Lib.hasPrefix okP
    cases t.data.toList with
    | nil => rfl
    | cons b l =>
      simp only [List.isPrefixOf, Bool.and_true, List.head?_cons, Option.some_beq_some]
      exact Bool.beq_comm
  show Ending.returned (.tuple #[.string ⟨(Lib.trimPrefix t.data.toList [32]).toArray⟩, .bool (Lib.hasPrefix t.data.toList [32])]) = _
  rw [hp, Lib.trimPrefix, hp]
  cases okP t.data.toList with
  | false => simp
  | true =>
    simp only [if_true]
    have e : (⟨(List.drop [(32 : UInt8)].length t.data.toList).toArray⟩ : ByteArray) = t.extract 1 t.size := by
      apply bytes_inj
      rw [Lib.extract_data, List.take_of_length_le (by simp)]
      simp
    rw [e]
def blankT (t : ByteArray) : ByteArray := if okP t.data.toList then t.extract 1 t.size else t
def PairsPost (w : World) (s : ByteArray) (e : Ending) (w' : World) : Prop := ∃ v, e = .returned (.tuple #[v, .int .i64 (prsC s)]) ∧ RowT w' w.heap.size v (prsL s) ∧ Below w.heap.size w w'
theorem pairsPost_mk {w w' : World} {s : ByteArray} {v : Value} {ps : List (List UInt8)} {c : Int} (hp : prsL s = ps) (hc : prsC s = c) (h : RowT w' w.heap.size v ps) (hb : Below w.heap.size w w') : PairsPost w s (.returned (.tuple #[v, .int .i64 c])) w' :=
  ⟨v, by rw [hc], by rw [hp]; exact h, hb⟩
theorem row_nil (w : World) (B : Nat) : RowT w B (.slice none 0 0) [] := RowT.empty _ _ _ _
theorem cell_new2 (w : World) (x y : Value) (t : TypeId) : ∀ (j : Nat) (u : Value), [x, y][j]? = some u → (w.alloc (.cells #[x, y] t)).cell? (Addr.add ⟨w.heap.size, 0, none⟩ j) = some u := by
  intro j u h
  rw [cell_off, World.cell?_alloc_at _ _ _ _ rfl]
  match j, h with
  | 0, h => simpa using h
  | 1, h => simpa using h
theorem two_str (a b : ByteArray) : ∀ u ∈ [Value.string a, Value.string b], u.oneCell' = true := by
  intro u h
  simp only [List.mem_cons, List.not_mem_nil, or_false] at h
  rcases h with rfl | rfl <;> rfl
theorem add_small (a b : ByteArray) (h : a.size + b.size ≤ 1000000) : Op.stringOp .add a b = pure (.string (a ++ b)) := by
  have hm : IntKind.i64.max = 9223372036854775807 := by decide
  unfold Op.stringOp
  simp only [hm]
  rw [if_neg (by omega)]
theorem own_ne (v : Value) : v.ownBlock = none ∨ v.ownBlock ≠ none := by cases v.ownBlock <;> simp
theorem below_ownC {C : Nat} {wr w3 w4 : World} {o : Obj} {v : Value} {e size n : Nat} {xs : List Value} (hb : Below C wr w3) (hC : C ≤ w3.heap.size) (hown : w3.ownsRow C e size v n xs) (hg : (w3.alloc o).grownBy w4 v.ownBlock) : Below C wr w4 := by
  refine (hb.alloc hC o).grown hg (by simp; omega) fun k hk => ?_
  obtain ⟨_, h | ⟨g, cap, cur, rfl, hge, _⟩⟩ := hown
  · obtain ⟨rfl, _⟩ := h
    cases hk
  · cases hk
    exact hge
/-- What has been read behind k parts. -/
def PairsRel (w : World) (s : ByteArray) (g C : Nat) (out i : Value) (wr : World) : Prop :=
  ∃ k : Nat, k ≤ (semi s).length ∧ i = .int .i64 k ∧ GoodTo s k ∧ wr.ownsRow C 9 1 out (pairsL ((semi s).take k)).length ((pairsL ((semi s).take k)).map strV) ∧ (∀ j (hj : j < (semi s).length), wr.cell? ⟨g, j, none⟩ = some (strV (semi s)[j])) ∧ C ≤ wr.heap.size ∧ Below w.heap.size w wr
set_option maxHeartbeats 1000000 in
set_option maxRecDepth 100000 in
theorem implPairs (s : ByteArray) (w : World) (hs : s.size ≤ maxLen) (hm : MaxNow w) : Calls Tryz.prog 18 #[.string s] w (PairsPost w s) := by
  have HM := Lib.hid hm
  clear hm
  unfold maxLen at hs
  by_cases hl : s.size ≤ 65536
  · cases he : s.toList.isEmpty with
    | true =>
      have h0 := empty_size he
      go_enter Tryz.func18, Tryz.ntmps18
      go_wp2
      go_ret2
      exact pairsPost_mk (by simp [prsL, h0]) (by simp [prsC, h0]) (row_nil _ _) (Below.refl _ _)
    | false =>
      obtain ⟨i0, hi, hz0, hz1, hz2⟩ := info_parts info_string
      have h0 := some_size he
      have hadd : Op.stringOp .add ⟨#[32]⟩ s = pure (.string (⟨#[32]⟩ ++ s)) := add_small _ _ (by show 1 + _ ≤ _; omega)
      go_enter Tryz.func18, Tryz.ntmps18
      go_wp2_with fail
      have hcat : (⟨#[32]⟩ ++ s : ByteArray).data.toList = 32 :: s.data.toList := by simp
      have hsz : (⟨#[32]⟩ ++ s : ByteArray).size ≤ 65537 := by rw [ByteArray.size_append]; show 1 + _ ≤ _; omega
      refine (splitAny _ 59 _ (by omega) HM.out).mono ?_
      rintro e w1 ⟨v, rfl, ⟨g, cap, rfl, hB, hg, hle, hcm, hfr, hcell⟩, hb⟩
      rw [hcat] at hcell hle ⊢
      have HC : Hid (∀ j (hj : j < (semi s).length), w1.cell? ⟨g, j, none⟩ = some (strV (semi s)[j])) := Lib.hid hcell
      have HB := Lib.hid hb
      have hlen := semi_len s
      have hlen1 := semi_pos s
      rw [show (cutL 59 (32 :: s.data.toList)).length = (semi s).length from rfl]
      clear hcell hb hfr hcat hsz hle
      go_wp2_with fail
      go_loopw [4, 20] (fun out i wr => PairsRel w s g w1.heap.size out i wr) (fun _ i _ => (semi s).length - (intOf i).toNat)
      case atStart => exact ⟨0, Nat.zero_le _, rfl, good_zero s, ⟨rfl, .inl ⟨rfl, rfl⟩⟩, HC.out, Nat.le_refl _, HB.out⟩
      case round =>
        obtain ⟨k, hk, rfl, hgood, hown, hcell, hCw, hb⟩ := hrel
        have HG := Lib.hid hgood
        have HO := Lib.hid hown
        have HX := Lib.hid hcell
        have HBx := Lib.hid hb
        have hwz := hb.size
        have hw1 := HB.out.size
        clear hgood hown hcell hb HC
        by_cases hlt : k < (semi s).length
        · obtain ⟨u, hu⟩ : ∃ u : ByteArray, u = ⟨(semi s)[k].toArray⟩ := ⟨_, rfl⟩
          have hud : Hid (u.data.toList = (semi s)[k]) := Lib.hid (by rw [hu])
          have c1 : wr.cell? ⟨g, k, none⟩ = some (.string u) := by rw [HX.out k hlt, hu]; rfl
          have hus : u.size ≤ 65537 := by
            have h := semi_mem (List.getElem_mem hlt)
            rw [← hud.out] at h
            simp at h
            omega
          have hki : (k : Int) < (semi s).length := by omega
          clear hu
          cases ho : okP u.data.toList with
          | false =>
            have HOK := Lib.hid ho
            go_wp2_with (go_at_call 87; refine (blankCut_any u _).mono ?_; rintro e w2 ⟨rfl, rfl⟩; rw [HOK.out])
            go_ret2
            have hbad : allOK s = false := all_bad hlt (by rw [← hud.out]; exact HOK.out)
            exact pairsPost_mk (by simp [prsL, hbad]) (by simp [prsC, hbad, hl, h0]) (row_nil _ _) HBx.out
          | true =>
            have HOK := Lib.hid ho
            have hus2 : (u.extract 1 u.size).size ≤ 65536 := by simp; omega
            have HXD : Hid ((u.extract 1 u.size).data.toList = (semi s)[k].drop 1) := Lib.hid (by rw [Lib.extract_data, List.take_of_length_le (by simp), hud.out])
            clear ho
            go_wp2_with (go_at_call 87; refine (blankCut_any u _).mono ?_; rintro e w2 ⟨rfl, rfl⟩; rw [HOK.out])
            generalize u.extract 1 u.size = x at *
            refine (pairOf_any x _ (by unfold maxLen; omega)).mono ?_
            rintro e w3 ⟨rfl, hb⟩
            have HB3 := Lib.hid hb
            have hwz3 := hb.size
            clear hb c1
            have hps : (pairsL ((semi s).take k)).length = 2 * k := by rw [pairs_len, List.length_take]; omega
            have HO2 := Lib.hid (HO.out.kept (grown_of_below HB3.out none) (own_ne _))
            go_wp2_with (at_builtin; refine wpList_append_own _ rfl _ _ 32 rfl w1.heap.size 9 i0 (.string ByteArray.empty) 1 16 Tryz.underlying32 hi hz0 hz1 hz2 rfl (by decide) _ _ _ rfl (HO2.out.alloc _) ⟨w3.heap.size, 0, none⟩ 2 2 [.string (nB x), .string (vB x)] rfl rfl (cell_new2 _ _ _ _) ?c2 ?c3 ?c4 ?c5 ?_; rotate_left 4; intro v' w4 hown' hgrow _)
            case c2 => exact two_str _ _
            case c3 => unfold maxLen; omega
            case c4 => omega
            case c5 => first | (simp; omega) | omega
            go_roundw
            case rel =>
              have hbC := below_ownC (HB3.out.mono hCw) (Nat.le_trans hCw hwz3) HO2.out hgrow
              have hps2 := pairs_take hlt
              have hlen2 : (pairsL ((semi s).take (k + 1))).length = (pairsL ((semi s).take k)).length + 2 := by rw [hps2, List.length_append]; rfl
              refine ⟨k + 1, by omega, by go_num, good_next HG.out hlt (by rw [← hud.out]; exact HOK.out), ?_, fun j hj => (hbC.cell (p := ⟨g, j, none⟩) hg).trans (HX.out j hj), Nat.le_trans hCw hbC.size, HBx.out.trans (hbC.mono hw1)⟩
              rw [hlen2, hps2, List.map_append]
              have e : (pairL ((semi s)[k].drop 1)).map strV = [.string (nB x), .string (vB x)] := by
                rw [← HXD.out, pairL, ← nB_data hus2, ← vB_data hus2]
                simp [strV]
              rw [e]
              exact hown'
            case measure => simp [intOf]; omega
        · obtain rfl : k = (semi s).length := by omega
          have hall := all_good HG.out (Nat.le_refl _)
          have hV : prsL s = pairsL (semi s) := by rw [prsL, if_pos ⟨hl, h0, hall⟩]
          have hC2 : prsC s = 0 := by rw [prsC, if_pos hl, if_pos h0, if_pos hall]
          have HV := Lib.hid hV
          have HC2 := Lib.hid hC2
          have HW1 := Lib.hid hw1
          clear hV hC2 hall
          rw [List.take_of_length_le (Nat.le_refl _)] at HO
          go_wp2_with fail
          go_ret2
          exact pairsPost_mk HV.out HC2.out ((row_owned HO.out).more HW1.out) HBx.out
  · go_enter Tryz.func18, Tryz.ntmps18
    go_wp2
    go_ret2
    exact pairsPost_mk (by simp [prsL, hl]) (by simp [prsC, hl]) (row_nil _ _) (Below.refl _ _)
/-- What has been read behind k parts, and what is left. -/
def PairsRel2 (w : World) (s : ByteArray) (out text more : Value) (wr : World) : Prop :=
  ∃ (k : Nat) (t : ByteArray) (b : Bool), k ≤ (semi s).length ∧ text = .string t ∧ t.size ≤ 65536 ∧ more = .bool b ∧ GoodTo s k ∧ (b = true → RestIs s k t.data.toList) ∧ (b = false → k = (semi s).length) ∧
    wr.ownsRow w.heap.size 9 1 out (pairsL ((semi s).take k)).length ((pairsL ((semi s).take k)).map strV) ∧ Below w.heap.size w wr
def leftOver : Value → Value → Nat
  | .string t, .bool true => t.size + 1
  | _, _ => 0
theorem pairs_own {s : ByteArray} {k : Nat} (hlt : k < (semi s).length) {x a b : ByteArray} (hx : x.data.toList = (semi s)[k].drop 1) (hxs : x.size ≤ 65536) (ha : nB x = a) (hb : vB x = b) {w : World} {B : Nat} {v : Value}
    (h : w.ownsRow B 9 1 v ((pairsL ((semi s).take k)).length + 2) ((pairsL ((semi s).take k)).map strV ++ [.string a, .string b])) : w.ownsRow B 9 1 v (pairsL ((semi s).take (k + 1))).length ((pairsL ((semi s).take (k + 1))).map strV) := by
  have hps2 := pairs_take hlt
  have hlen2 : (pairsL ((semi s).take (k + 1))).length = (pairsL ((semi s).take k)).length + 2 := by rw [hps2, List.length_append]; rfl
  rw [hlen2, hps2, List.map_append]
  have e : (pairL ((semi s)[k].drop 1)).map strV = [.string a, .string b] := by
    rw [← hx, pairL, ← nB_data hxs, ← vB_data hxs, ha, hb]
    simp [strV]
  rw [e]
  exact h
theorem head_none {r : ByteArray} (h : r.size = 0) : (r.data.toList.head? == some 32) = false := by
  have : r.data.toList = [] := List.eq_nil_of_length_eq_zero (by simpa using h)
  rw [this]
  rfl
theorem pr_head_at {r : ByteArray} (h : 0 < r.size) : r.data.toList = r[0]'h :: (r.extract 1 r.size).data.toList := by
  rw [Lib.extract_data, List.take_of_length_le (by simp)]
  have hl : 0 < r.data.toList.length := by simpa using h
  have := List.drop_eq_getElem_cons (l := r.data.toList) (i := 0) hl
  rw [List.drop_zero] at this
  exact this
set_option maxHeartbeats 2000000 in
set_option maxRecDepth 100000 in
theorem specPairs (s : ByteArray) (w : World) (hs : s.size ≤ maxLen) : Calls Tryz.prog 19 #[.string s] w (PairsPost w s) := by
  unfold maxLen at hs
  by_cases hl : s.size ≤ 65536
  · obtain ⟨i0, hi, hz0, hz1, hz2⟩ := info_parts info_string
    cases he : s.toList.isEmpty with
    | true =>
      have h0 := empty_size he
      go_enter Tryz.func19, Tryz.ntmps19
      go_wp2_with fail
      go_loopw [4, 5] (fun out more wr => more = .bool false ∧ out = .slice (some ⟨w.heap.size, 0, none⟩) 0 0 ∧ Below w.heap.size w wr) (fun _ _ _ => 0)
      case atStart => exact ⟨rfl, rfl, (Below.refl _ _).alloc (Nat.le_refl _) _⟩
      case round =>
        obtain ⟨rfl, rfl, hb⟩ := hrel
        have HB := Lib.hid hb
        clear hb
        go_wp2_with fail
        go_ret2
        exact pairsPost_mk (by simp [prsL, h0]) (by simp [prsC, h0]) (RowT.empty _ _ _ _) HB.out
    | false =>
      have h0 := some_size he
      have hlen := semi_len s
      go_enter Tryz.func19, Tryz.ntmps19
      go_wp2_with fail
      go_loopw [0, 4, 5] (fun text out more wr => PairsRel2 w s out text more wr) (fun text _ more _ => leftOver text more)
      case atStart => exact ⟨0, s, true, Nat.zero_le _, rfl, hl, rfl, good_zero s, fun _ => rest_start s, (fun h => by cases h), ⟨rfl, .inr ⟨w.heap.size, 0, #[], rfl, Nat.le_refl _, heap_alloc_new _ _, Nat.le_refl _, Nat.zero_le _, rfl, rfl⟩⟩, (Below.refl _ _).alloc (Nat.le_refl _) _⟩
      case round =>
        obtain ⟨k, t, b, hk, rfl, hts, rfl, hgood, hrest, hend, hown, hb⟩ := hrel
        have HG := Lib.hid hgood
        have HO := Lib.hid hown
        have HBx := Lib.hid hb
        have hwz := hb.size
        clear hgood hown hb
        cases b with
        | false =>
          obtain rfl : k = (semi s).length := hend rfl
          clear hrest hend
          have hall := all_good HG.out (Nat.le_refl _)
          have hV : prsL s = pairsL (semi s) := by rw [prsL, if_pos ⟨hl, h0, hall⟩]
          have hC2 : prsC s = 0 := by rw [prsC, if_pos hl, if_pos h0, if_pos hall]
          have HV := Lib.hid hV
          have HC2 := Lib.hid hC2
          clear hV hC2 hall
          rw [List.take_of_length_le (Nat.le_refl _)] at HO
          go_wp2_with fail
          go_ret2
          exact pairsPost_mk HV.out HC2.out (row_owned HO.out) HBx.out
        | true =>
          have HR := Lib.hid (hrest rfl)
          clear hrest hend
          have hlt := rest_lt HR.out
          have hps : (pairsL ((semi s).take k)).length = 2 * k := by rw [pairs_len, List.length_take]; omega
          cases hc : cutB t 59 with
          | false =>
            have HC := Lib.hid hc
            have hxe := left_miss hts hc
            have HLM := Lib.hid hxe
            have hmiss : ¬ t.data.toList.findIdx (· == 59) < t.data.toList.length := by
              have := hit_cut hts 59
              rw [hc, hitL] at this
              simpa using this.symm
            obtain ⟨_, hpk, hlast⟩ := rest_last HR.out hmiss
            have HPK := Lib.hid hpk
            have hxd : t.data.toList = (semi s)[k].drop 1 := by rw [hpk]; rfl
            have HXD := Lib.hid hxd
            have hrr : rightB t 59 = ⟨#[]⟩ := by
              simp only [cutB, decide_eq_false_iff_not] at hc
              rw [rightB, if_neg hc]
            have HRR := Lib.hid hrr
            have hxs := hts
            clear hc hxe hmiss hpk hxd hrr
            go_wp2_with fail
            refine (specCut t 59 _ (by unfold maxLen; omega) hts).mono ?_
            rintro e w3 ⟨rfl, hb⟩
            rw [HC.out, HLM.out, HRR.out]
            have HB3 := Lib.hid hb
            clear hb
            obtain ⟨x, hx⟩ : ∃ x : ByteArray, x = t := ⟨_, rfl⟩
            subst hx
            cases hq : cutB x 61 with
            | true =>
              have HQ := Lib.hid hq
              have hN : nB x = leftB x 61 := by rw [nB, HQ.out]; rfl
              have hV : vB x = rightB x 61 := by rw [vB, HQ.out]; rfl
              have HN := Lib.hid hN
              have HVX := Lib.hid hV
              clear hN hV hq
              go_wp2_with fail
              refine (specCut x 61 _ (by unfold maxLen; omega) hxs).mono ?_
              rintro e w4 ⟨rfl, hb⟩
              rw [HQ.out]
              have HB4 := Lib.hid (HB3.out.trans (hb.mono HB3.out.size))
              have HO4 := Lib.hid (HO.out.kept (grown_of_below HB4.out none) (own_ne _))
              have hwz4 := HB4.out.size
              clear hb
              go_wp2_with (at_builtin; refine wpList_append_own _ rfl _ _ 32 rfl w.heap.size 9 i0 (.string ByteArray.empty) 1 16 Tryz.underlying32 hi hz0 hz1 hz2 rfl (by decide) _ _ _ rfl (HO4.out.alloc _) ⟨w4.heap.size, 0, none⟩ 2 2 [.string (leftB x 61), .string (rightB x 61)] rfl rfl (cell_new2 _ _ _ _) ?c2 ?c3 ?c4 ?c5 ?_; rotate_left 4; intro v' w5 hown' hgrow _)
              case c2 => exact two_str _ _
              case c3 => unfold maxLen; omega
              case c4 => omega
              case c5 => first | (simp; omega) | omega
              go_roundw
              case rel =>
                have hbC := below_ownC (HB4.out.mono hwz) (Nat.le_trans hwz hwz4) HO4.out hgrow
                refine ⟨k + 1, ⟨#[]⟩, false, by omega, rfl, Nat.zero_le _, rfl, good_next HG.out hlt (by rw [HPK.out]; rfl), (fun h => by cases h), (fun _ => by omega), pairs_own hlt HXD.out hxs HN.out HVX.out hown', HBx.out.trans hbC⟩
              case measure => first | (simp only [leftOver]; omega) | (simp [leftOver]; omega) | simp [leftOver]
            | false =>
              have HQ := Lib.hid hq
              have hN : nB x = ⟨#[]⟩ := by rw [nB, HQ.out]; rfl
              have hV : vB x = leftB x 61 := by rw [vB, HQ.out]; rfl
              have HN := Lib.hid hN
              have HVX := Lib.hid hV
              clear hN hV hq
              go_wp2_with fail
              refine (specCut x 61 _ (by unfold maxLen; omega) hxs).mono ?_
              rintro e w4 ⟨rfl, hb⟩
              rw [HQ.out]
              have HB4 := Lib.hid (HB3.out.trans (hb.mono HB3.out.size))
              have HO4 := Lib.hid (HO.out.kept (grown_of_below HB4.out none) (own_ne _))
              have hwz4 := HB4.out.size
              clear hb
              go_wp2_with (at_builtin; refine wpList_append_own _ rfl _ _ 32 rfl w.heap.size 9 i0 (.string ByteArray.empty) 1 16 Tryz.underlying32 hi hz0 hz1 hz2 rfl (by decide) _ _ _ rfl (HO4.out.alloc _) ⟨w4.heap.size, 0, none⟩ 2 2 [.string ⟨#[]⟩, .string (leftB x 61)] rfl rfl (cell_new2 _ _ _ _) ?c2 ?c3 ?c4 ?c5 ?_; rotate_left 4; intro v' w5 hown' hgrow _)
              case c2 => exact two_str _ _
              case c3 => unfold maxLen; omega
              case c4 => omega
              case c5 => first | (simp; omega) | omega
              go_roundw
              case rel =>
                have hbC := below_ownC (HB4.out.mono hwz) (Nat.le_trans hwz hwz4) HO4.out hgrow
                refine ⟨k + 1, ⟨#[]⟩, false, by omega, rfl, Nat.zero_le _, rfl, good_next HG.out hlt (by rw [HPK.out]; rfl), (fun h => by cases h), (fun _ => by omega), pairs_own hlt HXD.out hxs HN.out HVX.out hown', HBx.out.trans hbC⟩
              case measure => first | (simp only [leftOver]; omega) | (simp [leftOver]; omega) | simp [leftOver]
          | true =>
            have HC := Lib.hid hc
            have hhit : t.data.toList.findIdx (· == 59) < t.data.toList.length := by
              have := hit_cut hts 59
              rw [hc, hitL] at this
              simpa using this.symm
            obtain ⟨_, hpk, hdrop⟩ := rest_hit HR.out hhit
            have hld := left_hit hc
            have hrd := right_hit hc
            have HPK := Lib.hid hpk
            have hdr : (semi s).drop (k + 1) = cutL 59 (rightB t 59).data.toList := by rw [hrd]; exact hdrop
            have HDR := Lib.hid hdr
            have hxd : (leftB t 59).data.toList = (semi s)[k].drop 1 := by rw [hpk, hld]; rfl
            have HXD := Lib.hid hxd
            have hxs : (leftB t 59).size ≤ 65536 := Nat.le_trans (left_le _ _) hts
            have hrs : (rightB t 59).size + 1 ≤ t.size := by
              have h1 := congrArg List.length hrd
              simp only [List.length_drop, Array.length_toList] at h1
              have h2 : findB t 59 < t.size := by simpa [findB] using hhit
              show (rightB t 59).data.size + 1 ≤ t.data.size
              rw [h1]
              have h3 : findB t 59 < t.data.size := h2
              omega
            clear hc hhit hpk hdrop hld hrd hdr hxd
            go_wp2_with fail
            refine (specCut t 59 _ (by unfold maxLen; omega) hts).mono ?_
            rintro e w3 ⟨rfl, hb⟩
            rw [HC.out]
            have HB3 := Lib.hid hb
            clear hb
            generalize leftB t 59 = x at *
            generalize rightB t 59 = r at *
            cases hre : r.toList.isEmpty with
            | true =>
              have hbad := rest_bad HDR.out (head_none (empty_size hre))
              have HBAD := Lib.hid hbad
              clear hbad
              go_wp2_with fail
              go_ret2
              exact pairsPost_mk (by simp [prsL, HBAD.out]) (by simp [prsC, HBAD.out, hl, h0]) (RowT.empty _ _ _ _) ((HBx.out.trans (HB3.out.mono hwz)).alloc (Nat.le_trans hwz HB3.out.size) _)
            | false =>
              have hr0 := some_size hre
              have hra := pr_head_at hr0
              cases hr1 : (((r[0]'hr0).toNat : Int) != 32) with
              | true =>
                have hbad := rest_bad HDR.out (by
                  rw [hra, List.head?_cons, Option.some_beq_some, beq_eq_false_iff_ne]
                  intro h
                  rw [h] at hr1
                  exact absurd hr1 (by decide))
                have HBAD := Lib.hid hbad
                clear hbad hra
                go_wp2_with fail
                go_ret2
                exact pairsPost_mk (by simp [prsL, HBAD.out]) (by simp [prsC, HBAD.out, hl, h0]) (RowT.empty _ _ _ _) ((HBx.out.trans (HB3.out.mono hwz)).alloc (Nat.le_trans hwz HB3.out.size) _)
              | false =>
                have hb32 : r[0]'hr0 = 32 := by
                  simp only [bne_eq_false_iff_eq] at hr1
                  apply UInt8.toNat_inj.1
                  show _ = 32
                  omega
                have HNX := Lib.hid (rest_next HDR.out (by rw [hra, hb32]))
                have hes : (r.extract 1 r.size).size ≤ 65536 := by simp; omega
                have hes2 : (r.extract 1 r.size).size < t.size := by simp; omega
                clear hra hb32
                cases hq : cutB x 61 with
                | true =>
                  have HQ := Lib.hid hq
                  have hN : nB x = leftB x 61 := by rw [nB, HQ.out]; rfl
                  have hV : vB x = rightB x 61 := by rw [vB, HQ.out]; rfl
                  have HN := Lib.hid hN
                  have HVX := Lib.hid hV
                  clear hN hV hq
                  go_wp2_with fail
                  refine (specCut x 61 _ (by unfold maxLen; omega) hxs).mono ?_
                  rintro e w4 ⟨rfl, hb⟩
                  rw [HQ.out]
                  have HB4 := Lib.hid (HB3.out.trans (hb.mono HB3.out.size))
                  have HO4 := Lib.hid (HO.out.kept (grown_of_below HB4.out none) (own_ne _))
                  have hwz4 := HB4.out.size
                  clear hb
                  go_wp2_with (at_builtin; refine wpList_append_own _ rfl _ _ 32 rfl w.heap.size 9 i0 (.string ByteArray.empty) 1 16 Tryz.underlying32 hi hz0 hz1 hz2 rfl (by decide) _ _ _ rfl (HO4.out.alloc _) ⟨w4.heap.size, 0, none⟩ 2 2 [.string (leftB x 61), .string (rightB x 61)] rfl rfl (cell_new2 _ _ _ _) ?c2 ?c3 ?c4 ?c5 ?_; rotate_left 4; intro v' w5 hown' hgrow _)
                  case c2 => exact two_str _ _
                  case c3 => unfold maxLen; omega
                  case c4 => omega
                  case c5 => first | (simp; omega) | omega
                  go_roundw
                  case rel =>
                    have hbC := below_ownC (HB4.out.mono hwz) (Nat.le_trans hwz hwz4) HO4.out hgrow
                    refine ⟨k + 1, r.extract 1 r.size, true, by omega, rfl, hes, rfl, good_next HG.out hlt (by rw [HPK.out]; rfl), (fun _ => HNX.out), (fun h => by cases h), pairs_own hlt HXD.out hxs HN.out HVX.out hown', HBx.out.trans hbC⟩
                  case measure => first | (simp only [leftOver]; omega) | (simp [leftOver]; omega) | simp [leftOver]
                | false =>
                  have HQ := Lib.hid hq
                  have hN : nB x = ⟨#[]⟩ := by rw [nB, HQ.out]; rfl
                  have hV : vB x = leftB x 61 := by rw [vB, HQ.out]; rfl
                  have HN := Lib.hid hN
                  have HVX := Lib.hid hV
                  clear hN hV hq
                  go_wp2_with fail
                  refine (specCut x 61 _ (by unfold maxLen; omega) hxs).mono ?_
                  rintro e w4 ⟨rfl, hb⟩
                  rw [HQ.out]
                  have HB4 := Lib.hid (HB3.out.trans (hb.mono HB3.out.size))
                  have HO4 := Lib.hid (HO.out.kept (grown_of_below HB4.out none) (own_ne _))
                  have hwz4 := HB4.out.size
                  clear hb
                  go_wp2_with (at_builtin; refine wpList_append_own _ rfl _ _ 32 rfl w.heap.size 9 i0 (.string ByteArray.empty) 1 16 Tryz.underlying32 hi hz0 hz1 hz2 rfl (by decide) _ _ _ rfl (HO4.out.alloc _) ⟨w4.heap.size, 0, none⟩ 2 2 [.string ⟨#[]⟩, .string (leftB x 61)] rfl rfl (cell_new2 _ _ _ _) ?c2 ?c3 ?c4 ?c5 ?_; rotate_left 4; intro v' w5 hown' hgrow _)
                  case c2 => exact two_str _ _
                  case c3 => unfold maxLen; omega
                  case c4 => omega
                  case c5 => first | (simp; omega) | omega
                  go_roundw
                  case rel =>
                    have hbC := below_ownC (HB4.out.mono hwz) (Nat.le_trans hwz hwz4) HO4.out hgrow
                    refine ⟨k + 1, r.extract 1 r.size, true, by omega, rfl, hes, rfl, good_next HG.out hlt (by rw [HPK.out]; rfl), (fun _ => HNX.out), (fun h => by cases h), pairs_own hlt HXD.out hxs HN.out HVX.out hown', HBx.out.trans hbC⟩
                  case measure => first | (simp only [leftOver]; omega) | (simp [leftOver]; omega) | simp [leftOver]
  · go_enter Tryz.func19, Tryz.ntmps19
    go_wp2
    go_ret2
    exact pairsPost_mk (by simp [prsL, hl]) (by simp [prsC, hl]) (RowT.empty _ _ _ _) ((Below.refl _ _).alloc (Nat.le_refl _) _)
end Go.Proofs.YtpdonghdnaehhaaGreatDoor
