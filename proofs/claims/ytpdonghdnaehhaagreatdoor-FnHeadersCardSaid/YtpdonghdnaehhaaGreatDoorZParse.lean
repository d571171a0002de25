/- ParseSet of the program: what it answers. No condition of its own. -/
import Derived.Test.YtpdonghdnaehhaaGreatDoorZAttrs
namespace Go.Proofs.YtpdonghdnaehhaaGreatDoor
open Go.ChangeShapes Go.WideShapes Go.ChangeAt Go.WideMaps Go.WideElems Go.RowKit
open Go.Maps (Keyed string_keyed IsMap)

def PsQ (w : World) (B : Nat) (q : Ps) : Prop := PsB w B q.n q.v q.d q.p q.he q.ha q.hp q.x q.a q.s q.sc q.ho
def psV (q : Ps) : Value := .agg #[.string q.n, .string q.v, .string q.d, .string q.p, .bool q.he, .bool q.ha, .bool q.hp, .int .i64 q.x, .int .i64 q.a, .int .i64 q.s, .bool q.sc, .bool q.ho]
theorem PsQ.stays {w w' : World} {B : Nat} {q : Ps} (h : PsQ w B q) (hb : Below w.heap.size w w') : PsQ w' B q := PsB.stays h hb
theorem PsQ.turned {w w' : World} {B C : Nat} {q : Ps} (h : PsQ w B q) (hg : w.grownBy w' (some C)) (hne : B ≠ C) : PsQ w' B q := PsB.grown h hg hne
theorem PsQ.lt {w : World} {B : Nat} {q : Ps} (h : PsQ w B q) : B < w.heap.size := PsB.lt h
theorem PsQ.zero (w : World) : PsQ (w.alloc (.cells #[.string ⟨#[]⟩, .string ⟨#[]⟩, .string ⟨#[]⟩, .string ⟨#[]⟩, .bool false, .bool false, .bool false, .int .i64 0, .int .i64 0, .int .i64 0, .bool false, .bool false] 24)) w.heap.size psZ := heap_alloc_new w _
/-- All twelve cells written over. -/
theorem PsB.put {w : World} {B : Nat} {n v d p : ByteArray} {he ha hp : Bool} {x a s : Int} {sc ho : Bool} (h : PsB w B n v d p he ha hp x a s sc ho) (n' v' d' p' : ByteArray) (he' ha' hp' : Bool) (x' a' s' : Int) (sc' ho' : Bool) : PsB ((((((((((((w.setCell ⟨B, 0, none⟩ (.string n')).setCell ⟨B, 1, none⟩ (.string v')).setCell ⟨B, 2, none⟩ (.string d')).setCell ⟨B, 3, none⟩ (.string p')).setCell ⟨B, 4, none⟩ (.bool he')).setCell ⟨B, 5, none⟩ (.bool ha')).setCell ⟨B, 6, none⟩ (.bool hp')).setCell ⟨B, 7, none⟩ (.int .i64 x')).setCell ⟨B, 8, none⟩ (.int .i64 a')).setCell ⟨B, 9, none⟩ (.int .i64 s')).setCell ⟨B, 10, none⟩ (.bool sc')).setCell ⟨B, 11, none⟩ (.bool ho')) B n' v' d' p' he' ha' hp' x' a' s' sc' ho' :=
  (((((((((((PsB.set0 h n').set1 v').set2 d').set3 p').set4 he').set5 ha').set6 hp').set7 x').set8 a').set9 s').set10 sc').set11 ho'
theorem putBelow {w wr : World} {B C : Nat} (hb : Below C w wr) (hB : C ≤ B) (n' v' d' p' : ByteArray) (he' ha' hp' : Bool) (x' a' s' : Int) (sc' ho' : Bool) : Below C w ((((((((((((wr.setCell ⟨B, 0, none⟩ (.string n')).setCell ⟨B, 1, none⟩ (.string v')).setCell ⟨B, 2, none⟩ (.string d')).setCell ⟨B, 3, none⟩ (.string p')).setCell ⟨B, 4, none⟩ (.bool he')).setCell ⟨B, 5, none⟩ (.bool ha')).setCell ⟨B, 6, none⟩ (.bool hp')).setCell ⟨B, 7, none⟩ (.int .i64 x')).setCell ⟨B, 8, none⟩ (.int .i64 a')).setCell ⟨B, 9, none⟩ (.int .i64 s')).setCell ⟨B, 10, none⟩ (.bool sc')).setCell ⟨B, 11, none⟩ (.bool ho')) :=
  (((((((((((hb.setCell (p := ⟨B, 0, none⟩) hB _).setCell (p := ⟨B, 1, none⟩) hB _).setCell (p := ⟨B, 2, none⟩) hB _).setCell (p := ⟨B, 3, none⟩) hB _).setCell (p := ⟨B, 4, none⟩) hB _).setCell (p := ⟨B, 5, none⟩) hB _).setCell (p := ⟨B, 6, none⟩) hB _).setCell (p := ⟨B, 7, none⟩) hB _).setCell (p := ⟨B, 8, none⟩) hB _).setCell (p := ⟨B, 9, none⟩) hB _).setCell (p := ⟨B, 10, none⟩) hB _).setCell (p := ⟨B, 11, none⟩) hB _
/-- 'v, ok := m[k]' in the map of the readers. -/
theorem wpList_lookup_reader (w : World) {ops : Array Oper} {rest : List Oper} {o : Oper} {a : Act} {Q : Exit → Act → World → Prop}
    (hg : o.guard = none) (m x : Operand) (hop : o.op = Op.lookup 88 m x true) (B g M : Nat) (hR : ReadersAt w B g M) (hm : a.eval m = .map (some M)) (u : ByteArray) (hx : a.eval x = .string u) (hu : u.size ≤ maxLen) (k N : Nat) (hk : atN u = k) (h0 : 0 < k) (hN : fnNo k = N) (hN0 : 0 < N)
    (hK : wpList Tryz.prog ops Q rest (a.put o.dst (.tuple #[.func (.func N) #[] #[.pointer (some ⟨g, 0, none⟩)], .bool true])) w) : wpList Tryz.prog ops Q (o :: rest) a w := by
  refine wpList_plain hg fun K' hK' => ?_
  obtain ⟨v, ps, hrun, hv⟩ := hR.1.look_ok keyLaw Tryz.underlying88 (zeroFun w) (rdR_nil g) (keyTxt u hu)
  rw [D7_at, hk, hN] at hv
  have hv2 := rdR_inv hN0 hv
  subst hv2
  rw [D7_has, hk, decide_eq_true h0] at hrun
  unfold Oper.wp
  simp [execOp, hop, hm, hx, hrun, Result.andThen]
  exact hK' _ _ hK
theorem wpList_lookup_none (w : World) {ops : Array Oper} {rest : List Oper} {o : Oper} {a : Act} {Q : Exit → Act → World → Prop}
    (hg : o.guard = none) (m x : Operand) (hop : o.op = Op.lookup 88 m x true) (B g M : Nat) (hR : ReadersAt w B g M) (hm : a.eval m = .map (some M)) (u : ByteArray) (hx : a.eval x = .string u) (hu : u.size ≤ maxLen) (hk : atN u = 0)
    (hK : ∀ v, wpList Tryz.prog ops Q rest (a.put o.dst (.tuple #[v, .bool false])) w) : wpList Tryz.prog ops Q (o :: rest) a w := by
  refine wpList_plain hg fun K' hK' => ?_
  obtain ⟨v, ps, hrun, hv⟩ := hR.1.look_ok keyLaw Tryz.underlying88 (zeroFun w) (rdR_nil g) (keyTxt u hu)
  rw [D7_has, hk, decide_eq_false (by omega)] at hrun
  unfold Oper.wp
  simp [execOp, hop, hm, hx, hrun, Result.andThen]
  exact hK' _ _ (hK v)
theorem atN_le (u : ByteArray) : atN u ≤ 7 := by
  unfold atN
  repeat (first | omega | split)
/-- What the k-th reader does, as fields. -/
theorem do1 (q : Ps) (t : ByteArray) : doA q 1 t = ⟨q.n, q.v, q.d, q.p, expH t q.he, q.ha, q.hp, expX t q.x, q.a, q.s, q.sc, q.ho⟩ := by
  unfold doA expH expX
  rw [if_pos rfl]
  cases dateR (readL t.data.toList) <;> rfl
theorem do2 (q : Ps) (t : ByteArray) : doA q 2 t = ⟨q.n, q.v, q.d, q.p, q.he, decOK t || q.ha, q.hp, q.x, if decOK t then decN t else q.a, q.s, q.sc, q.ho⟩ := by
  unfold doA
  rw [if_neg (by decide), if_pos rfl]
  cases decOK t <;> rfl
theorem do3 (q : Ps) (t : ByteArray) : doA q 3 t = ⟨q.n, q.v, trimB (foldB (undotB t)), q.p, q.he, q.ha, q.hp, q.x, q.a, q.s, q.sc, q.ho⟩ := rfl
theorem do4 (q : Ps) (t : ByteArray) : doA q 4 t = ⟨q.n, q.v, q.d, if slashB t then t else ⟨#[]⟩, q.he, q.ha, slashB t, q.x, q.a, q.s, q.sc, q.ho⟩ := rfl
theorem do5 (q : Ps) (t : ByteArray) : doA q 5 t = ⟨q.n, q.v, q.d, q.p, q.he, q.ha, q.hp, q.x, q.a, q.s, true, q.ho⟩ := rfl
theorem do6 (q : Ps) (t : ByteArray) : doA q 6 t = ⟨q.n, q.v, q.d, q.p, q.he, q.ha, q.hp, q.x, q.a, q.s, q.sc, true⟩ := rfl
theorem do7 (q : Ps) (t : ByteArray) : doA q 7 t = ⟨q.n, q.v, q.d, q.p, q.he, q.ha, q.hp, q.x, q.a, siteN (foldB t), q.sc, q.ho⟩ := rfl
/-- Every reader does to the header what its number says. -/
theorem reader_any (k : Nat) (h1 : 1 ≤ k) (h7 : k ≤ 7) (B g : Nat) (q : Ps) (t : ByteArray) (w : World) (hP : PsQ w B q) (hc : w.cell? ⟨g, 0, none⟩ = some (.pointer (some ⟨B, 0, none⟩))) (hne : g ≠ B) (hs : t.size ≤ 60) (hA : PrAt w) :
    Calls Tryz.prog (fnNo k) #[.string t, .pointer (some ⟨g, 0, none⟩)] w fun e w' => e = .returned (.tuple #[]) ∧ PsQ w' B (doA q k t) ∧ w.grownBy w' (some B) := by
  obtain rfl | rfl | rfl | rfl | rfl | rfl | rfl : k = 1 ∨ k = 2 ∨ k = 3 ∨ k = 4 ∨ k = 5 ∨ k = 6 ∨ k = 7 := by omega
  · rw [do1]; exact attr1_any B g _ _ _ _ _ _ _ _ _ _ _ _ t w hP hc hne hs hA
  · rw [do2]; exact attr2_any B g _ _ _ _ _ _ _ _ _ _ _ _ t w hP hc hs hA
  · rw [do3]; exact attr3_any B g _ _ _ _ _ _ _ _ _ _ _ _ t w hP hc hs hA
  · rw [do4]; exact attr4_any B g _ _ _ _ _ _ _ _ _ _ _ _ t w hP hc hne
  · rw [do5]; exact attr5_any B g _ _ _ _ _ _ _ _ _ _ _ _ t w hP hc
  · rw [do6]; exact attr6_any B g _ _ _ _ _ _ _ _ _ _ _ _ t w hP hc
  · rw [do7]; exact attr7_any B g _ _ _ _ _ _ _ _ _ _ _ _ t w hP hc hs hA
theorem fnNo_pos {k : Nat} (h1 : 1 ≤ k) (h7 : k ≤ 7) : 0 < fnNo k := by
  obtain rfl | rfl | rfl | rfl | rfl | rfl | rfl : k = 1 ∨ k = 2 ∨ k = 3 ∨ k = 4 ∨ k = 5 ∨ k = 6 ∨ k = 7 := by omega
  all_goals decide
theorem reader_enters {k : Nat} (h1 : 1 ≤ k) (h7 : k ≤ 7) : ∀ args W, (callFunc (fnNo k) args).run Tryz.prog W = .ok (.enter (fnNo k) args) W := by
  obtain rfl | rfl | rfl | rfl | rfl | rfl | rfl : k = 1 ∨ k = 2 ∨ k = 3 ∨ k = 4 ∨ k = 5 ∨ k = 6 ∨ k = 7 := by omega
  · exact enters_of Tryz.func169 (by kernel_rfl) rfl
  · exact enters_of Tryz.func172 (by kernel_rfl) rfl
  · exact enters_of Tryz.func173 (by kernel_rfl) rfl
  · exact enters_of Tryz.func175 (by kernel_rfl) rfl
  · exact enters_of Tryz.func176 (by kernel_rfl) rfl
  · exact enters_of Tryz.func177 (by kernel_rfl) rfl
  · exact enters_of Tryz.func178 (by kernel_rfl) rfl
/-- What has been read behind k parts. -/
def ParRel (w : World) (B g M G R : Nat) (q0 : Ps) (ps : List (List UInt8)) (i : Value) (wr : World) : Prop :=
  ∃ k : Nat, k + 1 ≤ ps.length ∧ i = .int .i64 k ∧ PsQ wr B (foldP q0 ((ps.drop 1).take k)) ∧ ReadersAt wr B g M ∧ (∀ j (hj : j < ps.length), wr.cell? ⟨G, j, none⟩ = some (strV ps[j])) ∧ PsQ wr R psZ ∧ Below w.heap.size w wr
theorem trim_le {s : ByteArray} (h : s.size ≤ 65536) : (trimB s).size ≤ s.size := by
  rw [trimB, if_pos h]
  show (rightL (leftL s.data.toList)).toArray.size ≤ _
  rw [List.size_toArray]
  have h1 : (leftL s.data.toList).length ≤ s.data.toList.length := by
    unfold leftL
    exact (List.dropWhile_sublist _).length_le
  have h2 : (rightL (leftL s.data.toList)).length ≤ (leftL s.data.toList).length := by
    unfold rightL
    rw [List.length_reverse]
    have := (List.dropWhile_sublist (p := blankB) (l := (leftL s.data.toList).reverse)).length_le
    rw [List.length_reverse] at this
    exact this
  have h3 : s.data.toList.length = s.size := by simp
  omega
theorem fold_next {q : Ps} {l : List (List UInt8)} {k : Nat} (h : k < l.length) : foldP q (l.take (k + 1)) = attrP (foldP q (l.take k)) ⟨l[k].toArray⟩ := by
  unfold foldP
  rw [List.take_succ_eq_append_getElem h, List.foldl_append]
  rfl
theorem head_part (t : ByteArray) (h : 0 < (partsL t).length) : headT t = ⟨((partsL t)[0]).toArray⟩ := by
  unfold headT
  rw [List.headD_eq_head?_getD, List.head?_eq_getElem?, List.getElem?_eq_getElem h]
  rfl
set_option maxHeartbeats 8000000 in
set_option maxRecDepth 100000 in
theorem implParse (t : ByteArray) (w : World) (hs : t.size ≤ maxLen) (hA : PrAt w) : Calls Tryz.prog 12 #[.string t] w fun e w' => e = .returned (.tuple #[psV (parP t), .int .i64 (parC t)]) ∧ Below w.heap.size w w' := by
  have HA := Lib.hid hA
  clear hA
  by_cases hl : t.size ≤ 65536
  · have B0 := Lib.hid ((Below.refl w.heap.size w).alloc (Nat.le_refl _) (.cells #[.string ⟨#[]⟩, .string ⟨#[]⟩, .string ⟨#[]⟩, .string ⟨#[]⟩, .bool false, .bool false, .bool false, .int .i64 0, .int .i64 0, .int .i64 0, .bool false, .bool false] 24))
    have P0 := Lib.hid (PsQ.zero w)
    cases hctl : controlOK t with
    | true =>
      have hC : parC t = 1 := by rw [parC, if_neg (by omega), hctl, if_pos rfl]
      have HC := Lib.hid hC
      have HV : Hid (parP t = psZ) := Lib.hid (by rw [parP, if_neg (by rw [hC]; decide)])
      have HT := Lib.hid hctl
      clear hC hctl
      go_enter Tryz.func12, Tryz.ntmps12
      go_wp2_with fail
      refine (implControl t _ hs (HA.out.1.below B0.out)).mono ?_
      rintro e w1 ⟨rfl, hb⟩
      rw [HT.out]
      have B1 := Lib.hid (B0.out.trans (hb.mono B0.out.size))
      have P1 := Lib.hid (P0.out.stays hb)
      clear hb
      obtain ⟨r0, r1, r2, r3, r4, r5, r6, r7, r8, r9, r10, r11⟩ := (show PsB _ w.heap.size ⟨#[]⟩ ⟨#[]⟩ ⟨#[]⟩ ⟨#[]⟩ false false false 0 0 0 false false from P1.out).at
      have f0 := PsB.free P1.out 0
      have f1 := PsB.free P1.out 1
      have f2 := PsB.free P1.out 2
      have f3 := PsB.free P1.out 3
      have f4 := PsB.free P1.out 4
      have f5 := PsB.free P1.out 5
      have f6 := PsB.free P1.out 6
      have f7 := PsB.free P1.out 7
      have f8 := PsB.free P1.out 8
      have f9 := PsB.free P1.out 9
      have f10 := PsB.free P1.out 10
      have f11 := PsB.free P1.out 11
      go_wp2
      obtain ⟨q0, q1, q2, q3, q4, q5, q6, q7, q8, q9, q10, q11⟩ := (PsB.put (show PsB _ w.heap.size ⟨#[]⟩ ⟨#[]⟩ ⟨#[]⟩ ⟨#[]⟩ false false false 0 0 0 false false from P1.out) ⟨#[]⟩ ⟨#[]⟩ ⟨#[]⟩ ⟨#[]⟩ false false false 0 0 0 false false).at
      refine bodyPost_ret (v := .tuple #[.agg #[.string ⟨#[]⟩, .string ⟨#[]⟩, .string ⟨#[]⟩, .string ⟨#[]⟩, .bool false, .bool false, .bool false, .int .i64 0, .int .i64 0, .int .i64 0, .bool false, .bool false], .int .i64 1]) (by simp [results, Tryz.results12, go_sem, q0, q1, q2, q3, q4, q5, q6, q7, q8, q9, q10, q11]) rfl ?_
      exact ⟨by rw [HV.out, HC.out]; rfl, putBelow B1.out (Nat.le_refl _) ⟨#[]⟩ ⟨#[]⟩ ⟨#[]⟩ ⟨#[]⟩ false false false 0 0 0 false false⟩
    | false =>
      have HT := Lib.hid hctl
      have hlen := cutL_le 59 t.data.toList
      have hpos : 1 ≤ (cutL 59 t.data.toList).length := cutL_pos _ _
      have htl : t.data.toList.length = t.size := by simp
      go_enter Tryz.func12, Tryz.ntmps12
      go_wp2_with fail
      refine (implControl t _ hs (HA.out.1.below B0.out)).mono ?_
      rintro e w1 ⟨rfl, hb⟩
      rw [HT.out]
      have B1 := Lib.hid (B0.out.trans (hb.mono B0.out.size))
      have P1 := Lib.hid (P0.out.stays hb)
      clear hb B0 P0
      go_wp2_with fail
      refine (splitAny t 59 _ (by omega) (HA.out.2.2.1.below B1.out)).mono ?_
      rintro e w2 ⟨v, rfl, ⟨G, cap, rfl, hG1, hG2, hcap, hcm, _, hcells⟩, hb⟩
      have B2 := Lib.hid (B1.out.trans (hb.mono B1.out.size))
      have P2 := Lib.hid (P1.out.stays hb)
      have hhd := head_part t hpos
      have c0 : w2.cell? ⟨G, 0, none⟩ = some (.string (headT t)) := by rw [hhd]; exact hcells 0 (by omega)
      have hhs : (headT t).size ≤ 65536 := by
        rw [hhd]
        have := cutL_mem (List.getElem_mem (l := partsL t) (n := 0) hpos)
        show ((partsL t)[0]).toArray.size ≤ _
        rw [List.size_toArray]
        omega
      have HCL := Lib.hid hcells
      have hR2 := P2.out.lt
      clear hb hcells hhd B1 P1
      unfold maxLen at hcm
      obtain ⟨ps, hps⟩ : ∃ ps, cutL 59 t.data.toList = ps := ⟨_, rfl⟩
      have HPS : Hid (partsL t = ps) := Lib.hid hps
      rw [hps] at hlen hpos hcap HCL ⊢
      clear hps
      go_wp2_with fail
      refine (pairOf_any (headT t) _ (by unfold maxLen; omega)).mono ?_
      rintro e w3 ⟨rfl, hb⟩
      have B3 := Lib.hid (B2.out.trans (hb.mono B2.out.size))
      have P3 := Lib.hid (P2.out.stays hb)
      have HCL3 : Hid (∀ j (hj : j < ps.length), w3.cell? ⟨G, j, none⟩ = some (strV ps[j])) := Lib.hid (fun j hj => (hb.cell (p := ⟨G, j, none⟩) hG2).trans (HCL.out j hj))
      have hG3 := Nat.lt_of_lt_of_le hG2 hb.size
      have hn1 := nB_le (headT t)
      have hv1 := vB_le (headT t)
      clear hb
      go_wp2_with fail
      refine (implTrim (nB (headT t)) _ (by unfold maxLen; omega)).mono ?_
      rintro e w4 ⟨rfl, hb⟩
      have B4 := Lib.hid (B3.out.trans (hb.mono B3.out.size))
      have P4 := Lib.hid (P3.out.stays hb)
      have HCL4 : Hid (∀ j (hj : j < ps.length), w4.cell? ⟨G, j, none⟩ = some (strV ps[j])) := Lib.hid (fun j hj => (hb.cell (p := ⟨G, j, none⟩) hG3).trans (HCL3.out j hj))
      have hG4 := Nat.lt_of_lt_of_le hG3 hb.size
      clear hb HCL3 HCL B2 P2 B3 P3
      go_wp2_with fail
      refine (implTrim (vB (headT t)) _ (by unfold maxLen; omega)).mono ?_
      rintro e w5 ⟨rfl, hb⟩
      have B5 := Lib.hid (B4.out.trans (hb.mono B4.out.size))
      have P5 := Lib.hid (P4.out.stays hb)
      have HCL5 : Hid (∀ j (hj : j < ps.length), w5.cell? ⟨G, j, none⟩ = some (strV ps[j])) := Lib.hid (fun j hj => (hb.cell (p := ⟨G, j, none⟩) hG4).trans (HCL4.out j hj))
      have hG5 := Nat.lt_of_lt_of_le hG4 hb.size
      have hR5 := P5.out.lt
      clear hb HCL4 B4 P4
      have hsn := trim_le (s := nB (headT t)) (by omega)
      have hsv := trim_le (s := vB (headT t)) (by omega)
      obtain ⟨N, hNN⟩ : ∃ N, trimB (nB (headT t)) = N := ⟨_, rfl⟩
      obtain ⟨V, hVV⟩ : ∃ V, trimB (vB (headT t)) = V := ⟨_, rfl⟩
      have HN : Hid (hN t = N) := Lib.hid hNN
      have HVV : Hid (hV t = V) := Lib.hid hVV
      rw [hNN] at hsn ⊢
      rw [hVV] at hsv ⊢
      have hcode : parC t = if N.size + V.size = 0 then 5 else if 100 < N.size + V.size then 8 else 0 := by
        rw [parC, if_neg (by omega), hctl, if_neg Bool.false_ne_true, HN.out, HVV.out]
      have HCO := Lib.hid hcode
      clear hNN hVV hcode hctl c0
      have P6 := Lib.hid (PsB.new w5 N V ⟨#[]⟩ ⟨#[]⟩ false false false 0 0 4 false false)
      have R6 := Lib.hid (PsB.alloc P5.out (.cells #[.string N, .string V, .string ⟨#[]⟩, .string ⟨#[]⟩, .bool false, .bool false, .bool false, .int .i64 0, .int .i64 0, .int .i64 4, .bool false, .bool false] 24))
      have B6 := Lib.hid (B5.out.alloc B5.out.size (.cells #[.string N, .string V, .string ⟨#[]⟩, .string ⟨#[]⟩, .bool false, .bool false, .bool false, .int .i64 0, .int .i64 0, .int .i64 4, .bool false, .bool false] 24))
      have b6c := P6.out.at
      obtain ⟨a0, a1, a2, a3, a4, a5, a6, a7, a8, a9, a10, a11⟩ := b6c
      by_cases hz : N.size + V.size = 0
      · have e1 : N.toList.isEmpty = true := by
          cases he : N.toList.isEmpty with
          | true => rfl
          | false => have := some_size he; omega
        have e2 : V.toList.isEmpty = true := by
          cases he : V.toList.isEmpty with
          | true => rfl
          | false => have := some_size he; omega
        have HC : Hid (parC t = 5) := Lib.hid (by rw [HCO.out, if_pos hz])
        have HV : Hid (parP t = psZ) := Lib.hid (by rw [parP, if_neg (by rw [HC.out]; decide)])
        obtain ⟨r0, r1, r2, r3, r4, r5, r6, r7, r8, r9, r10, r11⟩ := (show PsB _ w.heap.size ⟨#[]⟩ ⟨#[]⟩ ⟨#[]⟩ ⟨#[]⟩ false false false 0 0 0 false false from P5.out).at
        have f0 := PsB.free P5.out 0
        have f1 := PsB.free P5.out 1
        have f2 := PsB.free P5.out 2
        have f3 := PsB.free P5.out 3
        have f4 := PsB.free P5.out 4
        have f5 := PsB.free P5.out 5
        have f6 := PsB.free P5.out 6
        have f7 := PsB.free P5.out 7
        have f8 := PsB.free P5.out 8
        have f9 := PsB.free P5.out 9
        have f10 := PsB.free P5.out 10
        have f11 := PsB.free P5.out 11
        go_wp2
        obtain ⟨q0, q1, q2, q3, q4, q5, q6, q7, q8, q9, q10, q11⟩ := ((PsB.put (show PsB _ w.heap.size ⟨#[]⟩ ⟨#[]⟩ ⟨#[]⟩ ⟨#[]⟩ false false false 0 0 0 false false from P5.out) ⟨#[]⟩ ⟨#[]⟩ ⟨#[]⟩ ⟨#[]⟩ false false false 0 0 0 false false).alloc (.cells #[.string N, .string V, .string ⟨#[]⟩, .string ⟨#[]⟩, .bool false, .bool false, .bool false, .int .i64 0, .int .i64 0, .int .i64 4, .bool false, .bool false] 24)).at
        refine bodyPost_ret (v := .tuple #[.agg #[.string ⟨#[]⟩, .string ⟨#[]⟩, .string ⟨#[]⟩, .string ⟨#[]⟩, .bool false, .bool false, .bool false, .int .i64 0, .int .i64 0, .int .i64 0, .bool false, .bool false], .int .i64 5]) (by simp [results, Tryz.results12, go_sem, q0, q1, q2, q3, q4, q5, q6, q7, q8, q9, q10, q11]) rfl ?_
        have hpb := putBelow B5.out (Nat.le_refl _) ⟨#[]⟩ ⟨#[]⟩ ⟨#[]⟩ ⟨#[]⟩ false false false 0 0 0 false false
        exact ⟨by rw [HV.out, HC.out]; rfl, hpb.alloc hpb.size _⟩
      · by_cases hbig : 100 < N.size + V.size
        · have HC : Hid (parC t = 8) := Lib.hid (by rw [HCO.out, if_neg hz, if_pos hbig])
          have HV : Hid (parP t = psZ) := Lib.hid (by rw [parP, if_neg (by rw [HC.out]; decide)])
          obtain ⟨r0, r1, r2, r3, r4, r5, r6, r7, r8, r9, r10, r11⟩ := (show PsB _ w.heap.size ⟨#[]⟩ ⟨#[]⟩ ⟨#[]⟩ ⟨#[]⟩ false false false 0 0 0 false false from P5.out).at
          have f0 := PsB.free P5.out 0
          have f1 := PsB.free P5.out 1
          have f2 := PsB.free P5.out 2
          have f3 := PsB.free P5.out 3
          have f4 := PsB.free P5.out 4
          have f5 := PsB.free P5.out 5
          have f6 := PsB.free P5.out 6
          have f7 := PsB.free P5.out 7
          have f8 := PsB.free P5.out 8
          have f9 := PsB.free P5.out 9
          have f10 := PsB.free P5.out 10
          have f11 := PsB.free P5.out 11
          cases e1 : N.toList.isEmpty with
          | false =>
            go_wp2
            obtain ⟨q0, q1, q2, q3, q4, q5, q6, q7, q8, q9, q10, q11⟩ := ((PsB.put (show PsB _ w.heap.size ⟨#[]⟩ ⟨#[]⟩ ⟨#[]⟩ ⟨#[]⟩ false false false 0 0 0 false false from P5.out) ⟨#[]⟩ ⟨#[]⟩ ⟨#[]⟩ ⟨#[]⟩ false false false 0 0 0 false false).alloc (.cells #[.string N, .string V, .string ⟨#[]⟩, .string ⟨#[]⟩, .bool false, .bool false, .bool false, .int .i64 0, .int .i64 0, .int .i64 4, .bool false, .bool false] 24)).at
            refine bodyPost_ret (v := .tuple #[.agg #[.string ⟨#[]⟩, .string ⟨#[]⟩, .string ⟨#[]⟩, .string ⟨#[]⟩, .bool false, .bool false, .bool false, .int .i64 0, .int .i64 0, .int .i64 0, .bool false, .bool false], .int .i64 8]) (by simp [results, Tryz.results12, go_sem, q0, q1, q2, q3, q4, q5, q6, q7, q8, q9, q10, q11]) rfl ?_
            have hpb := putBelow B5.out (Nat.le_refl _) ⟨#[]⟩ ⟨#[]⟩ ⟨#[]⟩ ⟨#[]⟩ false false false 0 0 0 false false
            exact ⟨by rw [HV.out, HC.out]; rfl, hpb.alloc hpb.size _⟩
          | true =>
            have e2 : V.toList.isEmpty = false := by
              cases he : V.toList.isEmpty with
              | false => rfl
              | true => have h1 := empty_size e1; have h2 := empty_size he; omega
            go_wp2
            obtain ⟨q0, q1, q2, q3, q4, q5, q6, q7, q8, q9, q10, q11⟩ := ((PsB.put (show PsB _ w.heap.size ⟨#[]⟩ ⟨#[]⟩ ⟨#[]⟩ ⟨#[]⟩ false false false 0 0 0 false false from P5.out) ⟨#[]⟩ ⟨#[]⟩ ⟨#[]⟩ ⟨#[]⟩ false false false 0 0 0 false false).alloc (.cells #[.string N, .string V, .string ⟨#[]⟩, .string ⟨#[]⟩, .bool false, .bool false, .bool false, .int .i64 0, .int .i64 0, .int .i64 4, .bool false, .bool false] 24)).at
            refine bodyPost_ret (v := .tuple #[.agg #[.string ⟨#[]⟩, .string ⟨#[]⟩, .string ⟨#[]⟩, .string ⟨#[]⟩, .bool false, .bool false, .bool false, .int .i64 0, .int .i64 0, .int .i64 0, .bool false, .bool false], .int .i64 8]) (by simp [results, Tryz.results12, go_sem, q0, q1, q2, q3, q4, q5, q6, q7, q8, q9, q10, q11]) rfl ?_
            have hpb := putBelow B5.out (Nat.le_refl _) ⟨#[]⟩ ⟨#[]⟩ ⟨#[]⟩ ⟨#[]⟩ false false false 0 0 0 false false
            exact ⟨by rw [HV.out, HC.out]; rfl, hpb.alloc hpb.size _⟩
        · have HC : Hid (parC t = 0) := Lib.hid (by rw [HCO.out, if_neg hz, if_neg hbig])
          have HV : Hid (parP t = foldP (ps0 N V) (ps.drop 1)) := Lib.hid (by rw [parP, if_pos HC.out, HN.out, HVV.out, HPS.out])
          have hcase : N.toList.isEmpty = false ∨ (N.toList.isEmpty = true ∧ V.toList.isEmpty = false) := by
            cases e1 : N.toList.isEmpty with
            | false => exact .inl rfl
            | true =>
              refine .inr ⟨rfl, ?_⟩
              cases he : V.toList.isEmpty with
              | false => rfl
              | true => have h1 := empty_size e1; have h2 := empty_size he; omega
          have hsum : N.size + V.size ≤ 100 := by omega
          have HCL6 : Hid (∀ j (hj : j < ps.length), (w5.alloc (.cells #[.string N, .string V, .string ⟨#[]⟩, .string ⟨#[]⟩, .bool false, .bool false, .bool false, .int .i64 0, .int .i64 0, .int .i64 4, .bool false, .bool false] 24)).cell? ⟨G, j, none⟩ = some (strV ps[j])) := Lib.hid (fun j hj => (World.cell?_alloc_lt w5 _ ⟨G, j, none⟩ hG5).trans (HCL5.out j hj))
          have HMEM : Hid (∀ x ∈ ps, x.length ≤ 65536) := Lib.hid (fun x hx => by
            rw [← HPS.out] at hx
            have := cutL_mem hx
            omega)
          clear hz hbig B5 P5 HCL5 HCO hsn hsv hn1 hv1
          go_upto_region 8 with fail
          go_cut [44] (fun u wx => u = .bool false ∧ wx = w5.alloc (.cells #[.string N, .string V, .string ⟨#[]⟩, .string ⟨#[]⟩, .bool false, .bool false, .bool false, .int .i64 0, .int .i64 0, .int .i64 4, .bool false, .bool false] 24))
          case first =>
            rcases hcase with e1 | ⟨e1, e2⟩
            · go_wp2_with fail
              go_meet
              exact ⟨rfl, rfl⟩
            · go_wp2_with fail
              go_meet
              exact ⟨rfl, rfl⟩
          case rest =>
            obtain ⟨rfl, rfl⟩ := hcut
            clear hcase
            go_wp2_with fail
            refine (readers_any w5.heap.size _).mono ?_
            rintro e w7 ⟨rfl, hrd, hb⟩
            rw [World.size_alloc] at hrd hb ⊢
            have B7 := Lib.hid (B6.out.trans (hb.mono (by have := B6.out.size; simpa using this)))
            have P7 := Lib.hid (P6.out.stays (by rw [World.size_alloc]; exact hb))
            have R7 := Lib.hid (R6.out.stays (by rw [World.size_alloc]; exact hb))
            have RD7 := Lib.hid hrd
            have HCL7 : Hid (∀ j (hj : j < ps.length), w7.cell? ⟨G, j, none⟩ = some (strV ps[j])) := Lib.hid (fun j hj => (hb.cell (p := ⟨G, j, none⟩) (by show G < _; omega)).trans (HCL6.out j hj))
            clear hb hrd a0 a1 a2 a3 a4 a5 a6 a7 a8 a9 a10 a11
            obtain ⟨m, hm⟩ : ∃ m, ps.length = m + 1 := ⟨ps.length - 1, by omega⟩
            have HL := Lib.hid hm
            have hm2 : m ≤ 65537 := by omega
            rw [hm] at hcap ⊢
            clear hm hlen hpos
            go_upto_region 13 with fail
            go_cut [57, 58, 59] (fun u57 u58 u59 wx => u58 = .int .i64 m ∧ u59 = .int .i64 0 ∧ wx = w7 ∧ ∃ A c, u57 = .slice A m c ∧ (0 < m → A = some ⟨G, 1, none⟩))
            case first =>
              by_cases hc1 : cap = 1
              · have hm0 : m = 0 := by omega
                subst hc1
                subst hm0
                go_wp2_with fail
                go_meet
                exact ⟨rfl, rfl, rfl, _, _, rfl, fun h => absurd h (by omega)⟩
              · have hc2 : 1 < cap := by omega
                go_wp2_with fail
                go_meet
                exact ⟨rfl, rfl, rfl, _, _, rfl, fun _ => rfl⟩
            case rest =>
              obtain ⟨rfl, rfl, rfl, A, c, rfl, hA1⟩ := hcut
              go_wp2_with fail
              go_loopw [59] (fun i wr => ParRel w w5.heap.size (w5.heap.size + 1) (w5.heap.size + 1 + 1) G w.heap.size (ps0 N V) ps i wr) (fun i _ => m - (intOf i).toNat)
              case atStart => exact ⟨0, by rw [HL.out]; omega, rfl, P7.out, RD7.out, HCL7.out, R7.out, B7.out⟩
              case round =>
                obtain ⟨k, hk, rfl, hP, hRD, hCx, hR, hb⟩ := hrel
                have HP := Lib.hid hP
                have HRD := Lib.hid hRD
                have HCX := Lib.hid hCx
                have HR := Lib.hid hR
                have HB := Lib.hid hb
                have hGr : G < wr.heap.size := by
                  have h := hCx 0 (by omega)
                  exact World.block_lt_of_cell? wr _ h
                clear hP hRD hCx hR hb P7 RD7 HCL7 R7 B7 P6 R6 B6 HCL6
                by_cases hlt : k < m
                · obtain rfl := hA1 (by omega)
                  have hk1 : k + 1 < ps.length := by rw [HL.out]; omega
                  obtain ⟨u, hu⟩ : ∃ u : ByteArray, u = ⟨ps[k + 1].toArray⟩ := ⟨_, rfl⟩
                  have HU := Lib.hid hu
                  have c1 : wr.cell? ⟨G, 1 + k, none⟩ = some (.string u) := by
                    rw [show (⟨G, 1 + k, none⟩ : Addr) = ⟨G, k + 1, none⟩ by rw [Nat.add_comm], HCX.out (k + 1) hk1, hu]
                    rfl
                  have hus : u.size ≤ 65536 := by
                    rw [hu]
                    show ps[k + 1].toArray.size ≤ _
                    rw [List.size_toArray]
                    exact HMEM.out _ (List.getElem_mem hk1)
                  have s1 : (k : Int) < m := by omega
                  have hl1 := left_le u 61
                  have hr1 := right_le u 61
                  clear hu
                  go_wp2_with fail
                  refine (implSplit u 61 _ (by unfold maxLen; omega)).mono ?_
                  rintro e w8 ⟨rfl, hb8⟩
                  have B8 := Lib.hid hb8
                  clear hb8 c1
                  go_wp2_with fail
                  refine (implTrim (rightB u 61) _ (by unfold maxLen; omega)).mono ?_
                  rintro e w9 ⟨rfl, hb9⟩
                  have B9 := Lib.hid (B8.out.trans (hb9.mono B8.out.size))
                  clear hb9
                  go_wp2_with fail
                  refine (implTrim (leftB u 61) _ (by unfold maxLen; omega)).mono ?_
                  rintro e w10 ⟨rfl, hb10⟩
                  have B10 := Lib.hid (B9.out.trans (hb10.mono B9.out.size))
                  clear hb10
                  have ht1 := trim_le (s := leftB u 61) (by omega)
                  have ht2 := trim_le (s := rightB u 61) (by omega)
                  go_wp2_with fail
                  refine (implFold (trimB (leftB u 61)) _ (by unfold maxLen; omega) (HA.out.1.below (HB.out.trans (B10.out.mono HB.out.size)))).mono ?_
                  rintro e w11 ⟨rfl, hb11⟩
                  have B11 := Lib.hid (B10.out.trans (hb11.mono B10.out.size))
                  clear hb11
                  have hYs : (foldB (trimB (leftB u 61))).size ≤ maxLen := by rw [fold_size (by omega)]; unfold maxLen; omega
                  have hAP : attrP (foldP (ps0 N V) ((ps.drop 1).take k)) ⟨ps[k + 1].toArray⟩ = if (trimB (rightB u 61)).size ≤ 60 then doA (foldP (ps0 N V) ((ps.drop 1).take k)) (atN (foldB (trimB (leftB u 61)))) (trimB (rightB u 61)) else foldP (ps0 N V) ((ps.drop 1).take k) := by
                    rw [← HU.out]
                    rfl
                  have hNX : foldP (ps0 N V) ((ps.drop 1).take (k + 1)) = attrP (foldP (ps0 N V) ((ps.drop 1).take k)) ⟨ps[k + 1].toArray⟩ := by
                    rw [fold_next (by rw [List.length_drop]; omega)]
                    simp only [List.getElem_drop]
                    congr 2
                    simp only [show 1 + k = k + 1 by omega]
                  rw [hAP] at hNX
                  obtain ⟨q, hq⟩ : ∃ q, foldP (ps0 N V) ((ps.drop 1).take k) = q := ⟨_, rfl⟩
                  rw [hq] at hNX HP
                  obtain ⟨X, hX⟩ : ∃ X, trimB (rightB u 61) = X := ⟨_, rfl⟩
                  obtain ⟨Y, hY⟩ : ∃ Y, foldB (trimB (leftB u 61)) = Y := ⟨_, rfl⟩
                  rw [hX] at hNX ht2 ⊢
                  rw [hY] at hNX hYs ⊢
                  have HNX := Lib.hid hNX
                  have RD11 := Lib.hid (HRD.out.grown (grown_of_below B11.out none) (by simp) (by simp))
                  have P11 := Lib.hid (HP.out.stays B11.out)
                  have R11 := Lib.hid (HR.out.stays B11.out)
                  have BB11 := Lib.hid (HB.out.trans (B11.out.mono HB.out.size))
                  have HC11 : Hid (∀ j (hj : j < ps.length), w11.cell? ⟨G, j, none⟩ = some (strV ps[j])) := Lib.hid (fun j hj => (B11.out.cell (p := ⟨G, j, none⟩) hGr).trans (HCX.out j hj))
                  obtain ⟨kk, hkk⟩ : ∃ kk, atN Y = kk := ⟨_, rfl⟩
                  have HKK := Lib.hid hkk
                  have hk7 : kk ≤ 7 := by rw [← hkk]; exact atN_le Y
                  clear hAP hNX hq hX hY hkk B8 B9 B10 ht1 hl1 hr1 hus
                  by_cases h0 : kk = 0
                  · have HKK0 : Hid (atN Y = 0) := Lib.hid (by rw [HKK.out, h0])
                    clear h0
                    go_wp2_with (at_lookup; refine wpList_lookup_none _ rfl _ _ rfl _ _ _ RD11.out rfl Y rfl hYs HKK0.out ?_; intro v9)
                    go_roundw
                    case rel =>
                      refine ⟨k + 1, by omega, by go_num, ?_, RD11.out, HC11.out, R11.out, BB11.out⟩
                      rw [HNX.out, HKK0.out]
                      have : (if X.size ≤ 60 then doA q 0 X else q) = q := by split <;> rfl
                      rw [this]
                      exact P11.out
                    case measure => simp [intOf]; omega
                  · have h1 : 1 ≤ kk := by omega
                    have hpos := fnNo_pos h1 hk7
                    have hent := reader_enters h1 hk7
                    have HRA := Lib.hid (fun W' (hp : PsQ W' w5.heap.size q) (hc : W'.cell? ⟨w5.heap.size + 1, 0, none⟩ = some (.pointer (some ⟨w5.heap.size, 0, none⟩))) (hx : X.size ≤ 60) (ha : PrAt W') => reader_any kk h1 hk7 w5.heap.size (w5.heap.size + 1) q X W' hp hc (by omega) hx ha)
                    obtain ⟨fn, hfn⟩ : ∃ fn, fnNo kk = fn := ⟨_, rfl⟩
                    rw [hfn] at hent hpos HRA
                    have HFN := Lib.hid hfn
                    clear hfn
                    by_cases h60 : X.size ≤ 60
                    · go_wp2_with (at_lookup; refine wpList_lookup_reader _ rfl _ _ rfl _ _ _ RD11.out rfl Y rfl hYs kk fn HKK.out h1 HFN.out hpos ?_)
                      refine (HRA.out _ P11.out RD11.out.2.1 h60 (HA.out.below BB11.out)).mono ?_
                      rintro e w12 ⟨rfl, hP12, hg12⟩
                      have hzz := BB11.out.size
                      have HN12 := Lib.hid hP12
                      have HG12 := Lib.hid hg12
                      clear hP12 hg12
                      go_wp2_with fail
                      go_roundw
                      case rel =>
                        refine ⟨k + 1, by omega, by go_num, ?_, RD11.out.grown HG12.out (by simp; omega) (by simp), fun j hj => (World.cell?_of_block (a := ⟨G, j, none⟩) (HG12.out.block G (Nat.lt_of_lt_of_le hGr B11.out.size) (by simp; omega))).trans (HC11.out j hj), R11.out.turned HG12.out (by omega), BB11.out.grown HG12.out hzz (fun j hj => by cases hj; omega)⟩
                        rw [HNX.out, if_pos h60, HKK.out]
                        exact HN12.out
                      case measure => simp [intOf]; omega
                    · have hlong : (60 : Int) < X.size := by omega
                      go_wp2_with (at_lookup; refine wpList_lookup_reader _ rfl _ _ rfl _ _ _ RD11.out rfl Y rfl hYs kk fn HKK.out h1 HFN.out hpos ?_)
                      go_roundw
                      case rel =>
                        refine ⟨k + 1, by omega, by go_num, ?_, RD11.out, HC11.out, R11.out, BB11.out⟩
                        rw [HNX.out, if_neg h60]
                        exact P11.out
                      case measure => simp [intOf]; omega
                · have hkm : k = m := by have := HL.out; omega
                  subst hkm
                  obtain ⟨q, hq⟩ : ∃ q, foldP (ps0 N V) ((ps.drop 1).take k) = q := ⟨_, rfl⟩
                  have hall : foldP (ps0 N V) (ps.drop 1) = q := by
                    rw [← hq, List.take_of_length_le (by rw [List.length_drop, HL.out]; omega)]
                  have HAL := Lib.hid hall
                  rw [hq] at HP
                  clear hq hall
                  obtain ⟨n', v', d', p', he', ha', hp', x', a', s', sc', ho'⟩ := q
                  obtain ⟨k0, k1, k2, k3, k4, k5, k6, k7, k8, k9, k10, k11⟩ := PsB.at HP.out
                  obtain ⟨r0, r1, r2, r3, r4, r5, r6, r7, r8, r9, r10, r11⟩ := (show PsB _ w.heap.size ⟨#[]⟩ ⟨#[]⟩ ⟨#[]⟩ ⟨#[]⟩ false false false 0 0 0 false false from HR.out).at
                  have f0 := PsB.free HR.out 0
                  have f1 := PsB.free HR.out 1
                  have f2 := PsB.free HR.out 2
                  have f3 := PsB.free HR.out 3
                  have f4 := PsB.free HR.out 4
                  have f5 := PsB.free HR.out 5
                  have f6 := PsB.free HR.out 6
                  have f7 := PsB.free HR.out 7
                  have f8 := PsB.free HR.out 8
                  have f9 := PsB.free HR.out 9
                  have f10 := PsB.free HR.out 10
                  have f11 := PsB.free HR.out 11
                  go_wp2_with fail
                  obtain ⟨q0, q1, q2, q3, q4, q5, q6, q7, q8, q9, q10, q11⟩ := (PsB.put (show PsB _ w.heap.size ⟨#[]⟩ ⟨#[]⟩ ⟨#[]⟩ ⟨#[]⟩ false false false 0 0 0 false false from HR.out) n' v' d' p' he' ha' hp' x' a' s' sc' ho').at
                  refine bodyPost_ret (v := .tuple #[.agg #[.string n', .string v', .string d', .string p', .bool he', .bool ha', .bool hp', .int .i64 x', .int .i64 a', .int .i64 s', .bool sc', .bool ho'], .int .i64 0]) (by simp [results, Tryz.results12, go_sem, q0, q1, q2, q3, q4, q5, q6, q7, q8, q9, q10, q11]) rfl ?_
                  exact ⟨by rw [HV.out, HC.out, HAL.out]; rfl, putBelow HB.out (Nat.le_refl _) n' v' d' p' he' ha' hp' x' a' s' sc' ho'⟩
  · have HC : Hid (parC t = 2) := Lib.hid (by rw [parC, if_pos (by omega)])
    have HV : Hid (parP t = psZ) := Lib.hid (by rw [parP, if_neg (by rw [HC.out]; decide)])
    go_enter Tryz.func12, Tryz.ntmps12
    go_wp2
    refine bodyPost_ret (v := .tuple #[.agg #[.string ⟨#[]⟩, .string ⟨#[]⟩, .string ⟨#[]⟩, .string ⟨#[]⟩, .bool false, .bool false, .bool false, .int .i64 0, .int .i64 0, .int .i64 0, .bool false, .bool false], .int .i64 2]) (by simp [results, Tryz.results12, go_sem]) rfl ?_
    exact ⟨by rw [HV.out, HC.out]; rfl, (Below.refl _ _).alloc (Nat.le_refl _) _⟩
end Go.Proofs.YtpdonghdnaehhaaGreatDoor
