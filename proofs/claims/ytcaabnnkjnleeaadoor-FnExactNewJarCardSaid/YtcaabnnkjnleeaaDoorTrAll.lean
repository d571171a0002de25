/- All numbers of a trie, told by the model. No condition of its own. -/
import Derived.Test.YtcaabnnkjnleeaaDoorTrTo
import Derived.OwnWalk
import Derived.Laws.AppendOwn
import Derived.Deep.Upon
namespace Go.Proofs.YtcaabnnkjnleeaaDoor
open Go.ChangeShapes Go.WideShapes Go.ChangeAt Go.WideMaps Go.WideElems Go.RowKit

def rowZ (zs : List Int) : List Value := zs.map fun z => .int .i64 z
theorem rowZ_length (zs : List Int) : (rowZ zs).length = zs.length := by simp [rowZ]
theorem one_rowZ (zs : List Int) : ∀ u ∈ rowZ zs, u.oneCell' = true := by
  intro u hu
  obtain ⟨x, _, rfl⟩ := List.mem_map.1 hu
  rfl
theorem src_rowZ {w : World} {g off : Nat} {zs : List Int} (h : ∀ j (hj : j < zs.length), w.cell? ⟨g, off + j, none⟩ = some (.int .i64 zs[j])) : ∀ j u, (rowZ zs)[j]? = some u → w.cell? ((⟨g, off, none⟩ : Addr).add j) = some u := by
  intro j u hu
  obtain ⟨hj, he⟩ := List.getElem?_eq_some_iff.1 hu
  rw [rowZ_length] at hj
  rw [Go.WideShapes.add_plain, h j hj, ← he]
  simp [rowZ]
theorem rowZ_append (a b : List Int) : rowZ (a ++ b) = rowZ a ++ rowZ b := by simp [rowZ]
theorem own_belowZ {w w' : World} {B e s n : Nat} {v : Value} {xs : List Value} (h : w.ownsRow B e s v n xs) (hb : Below w.heap.size w w') : w'.ownsRow B e s v n xs := by
  obtain ⟨h1, h2 | ⟨g, cap, cur, rfl, h3, h4, h5⟩⟩ := h
  · exact ⟨h1, .inl h2⟩
  · exact ⟨h1, .inr ⟨g, cap, cur, rfl, h3, (hb.block g (Array.getElem?_eq_some_iff.1 h4).1).trans h4, h5⟩⟩
theorem src_own {w : World} {B e n g cap : Nat} {xs : List Value} (h : w.ownsRow B e 1 (.slice (some ⟨g, 0, none⟩) n cap) n xs) : ∀ j u, xs[j]? = some u → w.cell? ((⟨g, 0, none⟩ : Addr).add j) = some u := by
  obtain ⟨hl, h0 | ⟨g', cap', cur, e0, _, hh, _, _, _, h4⟩⟩ := h
  · cases h0.1
  · injection e0 with e1 e2 e3
    injection e1 with e1
    injection e1 with e1
    subst e1
    intro j u hu
    rw [← h4] at hu
    have hj : j < n * 1 := by
      have := (List.getElem?_eq_some_iff.1 hu).1
      rw [List.length_take] at this
      omega
    rw [List.getElem?_take_of_lt hj] at hu
    rw [Go.WideShapes.add_plain, Nat.zero_add]
    simp only [World.cell?, hh]
    simpa using hu
theorem all_light : ∀ (n : Nat) (t : Tr), (allT n t).length ≤ wtT n t
  | 0, _ => by simp [allT]
  | n + 1, t => by
    have : ∀ ks : List Tr, (ks.flatMap (allT n)).length ≤ wtK n ks := by
      intro ks
      induction ks with
      | nil => simp
      | cons k ks ih =>
        have := all_light n k
        simp only [wtK, List.flatMap_cons, List.length_append, List.map_cons, List.sum_cons] at ih ⊢
        omega
    have := this t.ks
    have hw : wtT (n + 1) t = t.l.size + t.ids.length + (t.ks.length + wtK n t.ks) := rfl
    simp only [allT, List.length_append]
    omega
theorem wpList_append_all {P : Program} {w : World} {ops : Array Oper} {rest : List Oper} {o : Oper} {a : Act} {Q : Exit → Act → World → Prop} (hgd : o.guard = none) (s x : Operand) (t : TypeId)
    (ho : o.op = .call { callee := .builtin .append, args := #[s, x], argTypes := #[t, t] })
    (base : Nat) (e : TypeId) (i : TypeInfo) (z : Value) (size bytes : Nat) (ht : P.underlying t = some (.slice e)) (hi : P.info? e = some i) (hz : i.zero = some z)
    (hsize : i.size = size) (hby : i.bytes = bytes) (hzs : z.cells.size = size) (hsz : 0 < size)
    (g0 n cap0 : Nat) (xs : List Value) (hs : a.eval s = .slice (some ⟨g0, 0, none⟩) n cap0) (hown : w.ownsRow base e size (.slice (some ⟨g0, 0, none⟩) n cap0) n xs)
    (oa : Option Addr) (m c : Nat) (news : List Value) (hx : a.eval x = .slice oa m c) (hsrc : (m = 0 ∧ news = []) ∨ (news.length = m * size ∧ ∃ ad, oa = some ad ∧ ∀ j u, news[j]? = some u → w.cell? (ad.add j) = some u)) (h1 : ∀ u ∈ news, u.oneCell' = true)
    (h63 : n + m ≤ maxLen) (hbytes : (n + m) * bytes ≤ 140737488355328) (hbase : base ≤ w.heap.size)
    (h : ∀ g cap w', w'.ownsRow base e size (.slice (some ⟨g, 0, none⟩) (n + m) cap) (n + m) (xs ++ news) → w.grownBy w' (some g0) → wpList P ops Q rest (a.put o.dst (.slice (some ⟨g, 0, none⟩) (n + m) cap)) w') : wpList P ops Q (o :: rest) a w := by
  have key : ∃ g cap w', (Builtin.append_ #[t, t] o.type #[.slice (some ⟨g0, 0, none⟩) n cap0, .slice oa m c]).run P w = .ok (.slice (some ⟨g, 0, none⟩) (n + m) cap) w' ∧ w'.ownsRow base e size (.slice (some ⟨g, 0, none⟩) (n + m) cap) (n + m) (xs ++ news) ∧ w.grownBy w' (some g0) := by
    rcases hsrc with ⟨rfl, rfl⟩ | ⟨hl, ad, rfl, hnews⟩
    · have hle : n ≤ cap0 := by
        obtain ⟨_, h | ⟨g', cap', cur, h0, _, _, h1, _⟩⟩ := hown
        · cases h.1
        · injection h0 with e1 e2 e3
          subst e3
          exact h1
      have hS : Src P i.size t (.slice oa 0 c) 0 [] w := by
        cases oa with
        | none => exact Src.ofNil w ht c
        | some ad => exact Src.ofSlice w ht ad 0 c [] (by simp) (by simp) (by simp)
      refine ⟨g0, cap0, w, run_append_nothing w t t o.type e i ht hi _ n cap0 hle _ hS, ?_, ⟨rfl, rfl, rfl, Nat.le_refl _, fun _ _ _ => rfl⟩⟩
      rw [Nat.add_zero, List.append_nil]
      exact hown
    · obtain ⟨v', w', hr, h2, h3, h4⟩ := run_append_own (P := P) w base t o.type e i z size bytes ht hi hz hsize hby hzs hsz _ n xs hown ad m c news hl hnews h1 h63 hbytes hbase
      obtain ⟨hl2, hh | ⟨g, cap, cur, rfl, hrest⟩⟩ := id h2
      · have := (h4.1 hh.1).1
        cases this
      · exact ⟨g, cap, w', hr, h2, h3⟩
  obtain ⟨g, cap, w', hr, h2, h3⟩ := key
  refine wpList_plain hgd fun _ hK => ?_
  unfold Oper.wp execOp
  simp only [ho, resolve, invoke, builtin, Sem.run_bind, Sem.run_pure, Result.andThen_ok, List.map_toArray, List.map_cons, List.map_nil, hs, hx, hr]
  exact hK _ _ (h g cap w' h2 h3)
theorem al_grow {w w1 w' : World} {B g : Nat} (h : Below B w w1) (hg : w1.grownBy w' (some g)) (hr : B ≤ g) (hB : B ≤ w1.heap.size := by first | exact Below.size (by assumption) | (simp; done)) : Below B w w' :=
  ⟨hg.os.trans h.os, hg.tape.trans h.tape, hg.output.trans h.output, Nat.le_trans h.size hg.size, fun k hk => (hg.block k (Nat.lt_of_lt_of_le hk hB) (fun e => by have := Option.some.inj e; omega)).trans (h.block k hk)⟩
theorem own_more0 {w : World} {B B' e s n : Nat} {v : Value} {xs : List Value} (h : w.ownsRow B e s v n xs) (hB : B' ≤ B) : w.ownsRow B' e s v n xs := by
  obtain ⟨h1, h2 | ⟨g, cap, cur, rfl, h3, h4⟩⟩ := h
  · exact ⟨h1, .inl h2⟩
  · exact ⟨h1, .inr ⟨g, cap, cur, rfl, Nat.le_trans hB h3, h4⟩⟩
theorem flat_light (n : Nat) : ∀ ks : List Tr, (ks.flatMap (allT n)).length ≤ wtK n ks
  | [] => by simp
  | k :: ks => by
    have h1 := all_light n k
    have h2 := flat_light n ks
    simp only [wtK, List.flatMap_cons, List.length_append, List.map_cons, List.sum_cons] at h2 ⊢
    omega
def AllPost (w : World) (zs : List Int) (e : Ending) (w' : World) : Prop := ∃ g cap, e = .returned (.slice (some ⟨g, 0, none⟩) zs.length cap) ∧ w'.ownsRow w.heap.size 3 1 (.slice (some ⟨g, 0, none⟩) zs.length cap) zs.length (rowZ zs) ∧ Below w.heap.size w w'
def AlRel (wA : World) (n : Nat) (ids : List Int) (ks : List Tr) (out i : Value) (wr : World) : Prop := ∃ j g cap : Nat, j ≤ ks.length ∧ i = .int .i64 j ∧ out = .slice (some ⟨g, 0, none⟩) (ids ++ (ks.take j).flatMap (allT n)).length cap ∧ wr.ownsRow wA.heap.size 3 1 out (ids ++ (ks.take j).flatMap (allT n)).length (rowZ (ids ++ (ks.take j).flatMap (allT n))) ∧ Below wA.heap.size wA wr
set_option maxHeartbeats 2000000 in
set_option maxRecDepth 100000 in
theorem specAll_any (A B : Nat) (z : Bool) : ∀ (n : Nat) (t : Tr) (vi vk : Value) (w : World), wtT n t ≤ 1048576 → B ≤ w.heap.size → NodeIn w A B z n t vi vk → Calls Tryd.prog 48 #[.agg #[.string t.l, vi, vk]] w (AllPost w (allT n t)) := by
  intro n
  induction n with
  | zero => intro t vi vk w _ _ h; exact h.elim
  | succ n ih =>
    intro t vi vk w hwt hB h
    have hw : wtT (n + 1) t = t.l.size + t.ids.length + (t.ks.length + wtK n t.ks) := rfl
    rw [hw] at hwt
    rw [show allT (n + 1) t = t.ids ++ t.ks.flatMap (allT n) from rfl]
    obtain ⟨hi, hk⟩ := h.parts
    obtain ⟨l, hl⟩ : ∃ l, t.l = l := ⟨_, rfl⟩
    obtain ⟨ks, hks⟩ : ∃ ks, t.ks = ks := ⟨_, rfl⟩
    obtain ⟨ids, hids⟩ : ∃ ids, t.ids = ids := ⟨_, rfl⟩
    rw [hl, hks, hids] at hwt
    rw [hks] at hk
    rw [hids] at hi
    rw [hl, hks, hids]
    obtain ⟨a, cap, rfl, hle, hcm, hx⟩ := hk
    obtain ⟨ai, ci, rfl, hil, hic, hxi⟩ := hi
    have HX := Lib.hid hx
    have HXI := Lib.hid hxi
    have IH := Lib.hid ih
    clear hx hxi ih h hw hl hks hids
    obtain ⟨i0, hi0, hzz⟩ := Option.map_eq_some_iff.1 info_int
    simp only [Prod.mk.injEq] at hzz
    obtain ⟨hz0, hz1, hz2⟩ := hzz
    have H0 : Hid ((w.alloc (.cells #[.string l, .slice ai ids.length ci, .slice a ks.length cap] 30)).heap[w.heap.size]? = _) := Lib.hid (heap_alloc_new _ _)
    obtain ⟨c0, c1, c2⟩ := node_cells H0.out
    have BA : Hid (Below w.heap.size w (w.alloc (.cells #[.string l, .slice ai ids.length ci, .slice a ks.length cap] 30))) := Lib.hid ((Below.refl _ _).alloc (Nat.le_refl _) _)
    obtain ⟨wA, hwA⟩ : ∃ wA, w.alloc (.cells #[.string l, .slice ai ids.length ci, .slice a ks.length cap] 30) = wA := ⟨_, rfl⟩
    have hlt0 : w.heap.size < wA.heap.size := by rw [← hwA]; simp
    rw [hwA] at BA H0 c0 c1 c2
    have hsrc : Hid ((ids.length = 0 ∧ rowZ ids = []) ∨ ((rowZ ids).length = ids.length * 1 ∧ ∃ ad, ai = some ad ∧ ∀ j u, (rowZ ids)[j]? = some u → (wA.alloc (.cells #[] 3)).cell? (ad.add j) = some u)) := Lib.hid (by
      by_cases hn : 0 < ids.length
      · right
        obtain ⟨g, off, rfl, _, hgB, hc⟩ := HXI.out hn
        refine ⟨by rw [rowZ_length]; omega, ⟨g, off, none⟩, rfl, src_rowZ fun j hj => ?_⟩
        exact ((BA.out.alloc (by omega) _).cell (p := ⟨g, off + j, none⟩) (by show g < w.heap.size; omega)).trans (hc j hj).1
      · left
        have : ids = [] := List.eq_nil_of_length_eq_zero (by omega)
        subst this
        exact ⟨rfl, rfl⟩)
    go_enter Tryd.func48, Tryd.ntmps48
    go_wp2_with (at_builtin; refine wpList_append_all rfl (.tmp 5) (.tmp 7) 22 rfl wA.heap.size 3 i0 _ 1 8 Tryd.underlying22 hi0 hz0 hz1 hz2 rfl (by decide) wA.heap.size 0 0 [] rfl ?own ai ids.length ci (rowZ ids) rfl hsrc.out (one_rowZ _) ?c3 ?c4 ?c5 ?_; rotate_left 4; intro g1 cp1 w1 hown hgrow)
    case own => exact ⟨rfl, .inr ⟨wA.heap.size, 0, #[], rfl, Nat.le_refl _, heap_alloc_new _ _, Nat.le_refl _, Nat.zero_le _, rfl, rfl⟩⟩
    case c3 => unfold maxLen; omega
    case c4 => omega
    case c5 => simp
    clear c0 c1 c2
    have BI : Hid (Below wA.heap.size wA w1) := Lib.hid (al_grow ((Below.refl _ _).alloc (Nat.le_refl _) _) hgrow (Nat.le_refl _))
    have HO : Hid (w1.ownsRow wA.heap.size 3 1 (.slice (some ⟨g1, 0, none⟩) ids.length cp1) ids.length (rowZ ids)) := Lib.hid (by simpa using hown)
    clear hown hgrow
    go_loopw [3, 4] (fun out i wr => AlRel wA n ids ks out i wr) (fun _ i _ => ks.length - (intOf i).toNat)
    case atStart =>
      refine ⟨0, g1, cp1, Nat.zero_le _, rfl, ?_, ?_, BI.out⟩
      · simp
      · simpa using HO.out
    case round =>
      clear HO BI
      obtain ⟨j, g2, cp2, hj, rfl, rfl, hown, hb⟩ := hrel
      have HO := Lib.hid hown
      have HB := Lib.hid hb
      obtain ⟨c0, c1, c2⟩ := node_cells ((hb.block w.heap.size hlt0).trans H0.out)
      have BW := Lib.hid (BA.out.trans (hb.mono BA.out.size))
      obtain ⟨acc, hacc⟩ : ∃ acc, ids ++ (ks.take j).flatMap (allT n) = acc := ⟨_, rfl⟩
      rw [hacc] at HO ⊢
      have HACC := Lib.hid hacc
      clear hb hown hacc
      by_cases hlt : j < ks.length
      · have s1 : (j : Int) < ks.length := by omega
        obtain ⟨g, off, rfl, _, hgB, hcell⟩ := HX.out (by omega)
        obtain ⟨q, hq⟩ : ∃ q : Tr, ks[j] = q := ⟨_, rfl⟩
        obtain ⟨_, _, k0, ui, uk, k1, k2, hN⟩ := hcell j hlt
        have hwq : wtT n ks[j] ≤ wtK n ks := kid_light (List.getElem_mem hlt)
        rw [hq] at k0 hN hwq
        have k0 := (BW.out.cell (p := ⟨g, off + j * 3, none⟩) (by show g < _; omega)).trans k0
        have k1 := (BW.out.cell (p := ⟨g, off + j * 3 + 1, none⟩) (by show g < _; omega)).trans k1
        have k2 := (BW.out.cell (p := ⟨g, off + j * 3 + 2, none⟩) (by show g < _; omega)).trans k2
        have HN := Lib.hid (hN.below BW.out hB)
        have HQ := Lib.hid hq
        clear hcell hq hN
        go_wp2_with fail
        refine (IH.out q ui uk _ (by omega) (Nat.le_trans hB BW.out.size) HN.out).mono ?_
        rintro e w2 ⟨g3, cp3, rfl, hr, hb⟩
        have HO2 := Lib.hid (own_belowZ HO.out hb)
        have HB2 := Lib.hid (HB.out.trans (hb.mono HB.out.size))
        have hsrc2 : Hid (((allT n q).length = 0 ∧ rowZ (allT n q) = []) ∨ ((rowZ (allT n q)).length = (allT n q).length * 1 ∧ ∃ ad, (some ⟨g3, 0, none⟩ : Option Addr) = some ad ∧ ∀ j u, (rowZ (allT n q))[j]? = some u → w2.cell? (ad.add j) = some u)) := Lib.hid (.inr ⟨by rw [rowZ_length]; omega, _, rfl, src_own hr⟩)
        have hacl : acc.length + (allT n q).length ≤ 1048576 := by
          have h1 := flat_light n (ks.take j)
          have h2 := sum_take (n := n) hlt
          have h3 := sum_take_le n ks (j + 1)
          have h4 := all_light n q
          rw [← HACC.out, List.length_append]
          rw [HQ.out] at h2
          omega
        have hg2 := (HO.out.lt g2 rfl).1
        clear hr hb k0 k1 k2 c0 c1 c2
        go_wp2_with (at_builtin; refine wpList_append_all rfl (.tmp 16) (.tmp 22) 22 rfl wA.heap.size 3 i0 _ 1 8 Tryd.underlying22 hi0 hz0 hz1 hz2 rfl (by decide) g2 acc.length cp2 (rowZ acc) rfl HO2.out (some ⟨g3, 0, none⟩) (allT n q).length cp3 (rowZ (allT n q)) rfl hsrc2.out (one_rowZ _) ?c3 ?c4 ?c5 ?_; rotate_left 3; intro g4 cp4 w3 hown hgrow)
        case c3 => unfold maxLen; omega
        case c4 => omega
        case c5 => exact HB2.out.size
        go_roundw
        case rel =>
          have e : ids ++ (ks.take (j + 1)).flatMap (allT n) = acc ++ allT n q := by
            rw [← HACC.out, List.take_succ_eq_append_getElem hlt, List.flatMap_append, HQ.out, List.append_assoc]
            simp
          refine ⟨j + 1, g4, cp4, by omega, by go_num, by rw [e, List.length_append], ?_, al_grow HB2.out hgrow hg2 HB2.out.size⟩
          rw [e, List.length_append, rowZ_append]
          exact hown
        case measure => simp [intOf]; omega
      · have s1 : ¬ (j : Int) < ks.length := by omega
        go_wp2_with fail
        go_ret
        have e : acc = ids ++ ks.flatMap (allT n) := by rw [← HACC.out, List.take_of_length_le (by omega)]
        rw [← e]
        exact ⟨g2, cp2, rfl, own_more0 HO.out (Nat.le_of_lt hlt0), BW.out⟩
end Go.Proofs.YtcaabnnkjnleeaaDoor
