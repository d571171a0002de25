/- Cookies sorted by the model, fewer than 20 of them. -/
import Derived.Test.YtpdonghdnaehhaaGreatDoorYCkSort3
import Derived.Test.YtpdonghdnaehhaaGreatDoorYCksDraw
import Derived.Test.YtpdonghdnaehhaaGreatDoorYCkSpecO
import Derived.Deep.RegionHeldLaw
import Derived.Deep.AppendLies
namespace Go.Proofs.YtpdonghdnaehhaaGreatDoor
open Go.ChangeShapes Go.WideShapes Go.ChangeAt Go.WideMaps Go.WideElems Go.RowKit

theorem own_below {w w' : World} {B e s n : Nat} {v : Value} {xs : List Value} (h : w.ownsRow B e s v n xs) (hb : Below w.heap.size w w') : w'.ownsRow B e s v n xs := by
  obtain ⟨h1, h2 | ⟨g, cap, cur, rfl, h3, h4, h5⟩⟩ := h
  · exact ⟨h1, .inl h2⟩
  · exact ⟨h1, .inr ⟨g, cap, cur, rfl, h3, (hb.block g (Array.getElem?_eq_some_iff.1 h4).1).trans h4, h5⟩⟩
theorem own_cap {w : World} {B e s n m g cap : Nat} {xs : List Value} (h : w.ownsRow B e s (.slice (some ⟨g, 0, none⟩) m cap) n xs) : m ≤ cap ∧ cap ≤ maxLen := by
  obtain ⟨_, h | ⟨g', cap', cur, h0, _, _, h1, h2, _⟩⟩ := h
  · cases h.1
  · injection h0 with e1 e2 e3
    subst e2 e3
    exact ⟨h1, h2⟩
theorem cellsL_cons (q : Ck) (qs : List Ck) : cellsL (q :: qs) = cellsC q ++ cellsL qs := rfl
theorem cellsC_length (q : Ck) : (cellsC q).length = 12 := rfl
theorem cellsL_app (a b : List Ck) : cellsL (a ++ b) = cellsL a ++ cellsL b := by simp [cellsL]
theorem cellsL_take : ∀ (qs : List Ck) (k : Nat), cellsL (qs.take k) = (cellsL qs).take (k * 12)
  | [], k => by simp [cellsL]
  | q :: qs, 0 => by simp [cellsL]
  | q :: qs, k + 1 => by
    rw [List.take_succ_cons, cellsL_cons, cellsL_cons, cellsL_take qs k, List.take_append, List.take_of_length_le (l := cellsC q) (by rw [cellsC_length]; omega), cellsC_length, show (k + 1) * 12 - 12 = k * 12 by omega]
theorem cellsL_drop : ∀ (qs : List Ck) (k : Nat), cellsL (qs.drop k) = (cellsL qs).drop (k * 12)
  | [], k => by simp [cellsL]
  | q :: qs, 0 => by simp
  | q :: qs, k + 1 => by
    rw [List.drop_succ_cons, cellsL_cons, cellsL_drop qs k, List.drop_append, List.drop_of_length_le (l := cellsC q) (by rw [cellsC_length]; omega), cellsC_length, show (k + 1) * 12 - 12 = k * 12 by omega, List.nil_append]
theorem one_cells (qs : List Ck) : ∀ u ∈ cellsL qs, u.oneCell' = true := by
  intro u hu
  obtain ⟨q, _, h⟩ := List.mem_flatMap.1 hu
  exact one_cookie q u h
theorem src_out {w w' : World} {B g cap k : Nat} {S : List Ck} (HO : w.ownsRow B 41 12 (.slice (some ⟨g, 0, none⟩) k cap) k (cellsL S)) (hb : Below w.heap.size w w') (o m : Nat) (h : o + m ≤ k) : ∀ j u, (cellsL ((S.drop o).take m))[j]? = some u → w'.cell? ((⟨g, o * 12, none⟩ : Addr).add j) = some u := by
  obtain ⟨hx, h0 | ⟨g', cap', cur, e, _, hh, h1, _, h3, h4⟩⟩ := HO
  · cases h0.1
  · injection e with e1 e2 e3
    injection e1 with e1
    injection e1 with e1
    subst e1 e3
    intro j u hu
    rw [cellsL_take, cellsL_drop, ← h4] at hu
    have hj : j < m * 12 := by
      have := (List.getElem?_eq_some_iff.1 hu).1
      rw [List.length_take] at this
      omega
    rw [List.getElem?_take_of_lt hj, List.getElem?_drop, List.getElem?_take_of_lt (by omega)] at hu
    have hh' : w'.heap[g]? = _ := (hb.block g (Array.getElem?_eq_some_iff.1 hh).1).trans hh
    rw [Go.WideShapes.add_plain]
    simp only [World.cell?, hh']
    rw [← hu]
    simp
theorem ck_below_grow {w w1 w' : World} {row : Option Nat} (h : Below w.heap.size w w1) (hg : w1.grownBy w' row) (hr : ∀ r, row = some r → w.heap.size ≤ r) : Below w.heap.size w w' :=
  ⟨hg.os.trans h.os, hg.tape.trans h.tape, hg.output.trans h.output, Nat.le_trans h.size hg.size, fun k hk => (hg.block k (Nat.lt_of_lt_of_le hk h.size) (fun e => by have := hr k e.symm; omega)).trans (h.block k hk)⟩
theorem new_two (w : World) (o o' : Obj) : ((w.alloc o).alloc o').drew.heap[w.heap.size + 1]? = some o' := by
  have h := heap_alloc_new (w.alloc o) o'
  rwa [show (w.alloc o).heap.size = w.heap.size + 1 by simp] at h
theorem old_two (w : World) (o o' : Obj) : ((w.alloc o).alloc o').drew.heap[w.heap.size]? = some o := (Below.heap_alloc _ _ _ (by simp)).trans (heap_alloc_new _ _)
theorem src_none {w : World} {ad : Addr} {l : List Value} (h : l.length = 0 * 12) : ∀ j u, l[j]? = some u → w.cell? (ad.add j) = some u := by
  intro j u hu
  have := (List.getElem?_eq_some_iff.1 hu).1
  omega
theorem step_append_any {P : Program} (w : World) {ops : Array Oper} {o : Oper} {a : Act} {K : Act → World → Prop} {Q : Exit → Act → World → Prop} {E : Prop} (hgd : o.guard = none) (s x : Operand) (t : TypeId)
    (ho : o.op = .call { callee := .builtin .append, args := #[s, x], argTypes := #[t, t] })
    (base : Nat) (e : TypeId) (i : TypeInfo) (z : Value) (size bytes : Nat) (ht : P.underlying t = some (.slice e)) (hi : P.info? e = some i) (hz : i.zero = some z)
    (hsize : i.size = size) (hby : i.bytes = bytes) (hzs : z.cells.size = size) (hsz : 0 < size)
    (v : Value) (n : Nat) (xs : List Value) (hs : a.eval s = v) (hown : w.ownsRow base e size v n xs)
    (ad : Addr) (m c : Nat) (news : List Value) (hx : a.eval x = .slice (some ad) m c) (hl : news.length = m * size) (hnews : ∀ j u, news[j]? = some u → w.cell? (ad.add j) = some u) (h1 : ∀ u ∈ news, u.oneCell' = true)
    (h63 : n + m ≤ maxLen) (hbytes : (n + m) * bytes ≤ 140737488355328) (hbase : base ≤ w.heap.size)
    (h : ∀ v' w', w'.ownsRow base e size v' (n + m) (xs ++ news) → w.grownBy w' v.ownBlock → K (a.put o.dst v') w') :
    if Region.wanted o (yielded ops a.tmps) = true then Oper.wp P o a w K Q else E := by
  have hw : Region.wanted o (yielded ops a.tmps) = true := by simp [Region.wanted, hgd]
  rw [if_pos hw]
  obtain ⟨v', w', hr, h2, h3, _⟩ := run_append_own_at (P := P) w base t o.type e i z size bytes ht hi hz hsize hby hzs hsz v n xs hown ad m c news hl hnews h1 h63 hbytes hbase
  unfold Oper.wp execOp
  simp only [ho, resolve, invoke, builtin, Sem.run_bind, Sem.run_pure, Result.andThen_ok, List.map_toArray, List.map_cons, List.map_nil, hs, hx, hr]
  exact h v' w' h2 h3
theorem own_at {w : World} {B h : Nat} (hh : w.heap[h]? = some (.cells #[] 41 (0, 0))) (hB : B ≤ h) : w.ownsRow B 41 12 (.slice (some ⟨h, 0, none⟩) 0 0) 0 [] :=
  ⟨rfl, .inr ⟨h, 0, #[], rfl, hB, hh, Nat.le_refl _, Nat.zero_le _, rfl, rfl⟩⟩
theorem own_more {w : World} {B B' e s n : Nat} {v : Value} {xs : List Value} (h : w.ownsRow B e s v n xs) (hB : B' ≤ B) : w.ownsRow B' e s v n xs := by
  obtain ⟨h1, h2 | ⟨g, cap, cur, rfl, h3, h4⟩⟩ := h
  · exact ⟨h1, .inl h2⟩
  · exact ⟨h1, .inr ⟨g, cap, cur, rfl, Nat.le_trans hB h3, h4⟩⟩
def SoRel (w : World) (qs : List Ck) (out i : Value) (wr : World) : Prop := ∃ k g cap : Nat, k ≤ qs.length ∧ i = .int .i64 k ∧ out = .slice (some ⟨g, 0, none⟩) k cap ∧ wr.ownsRow w.heap.size 41 12 out k (cellsL (sortB firstB (qs.take k))) ∧ Below w.heap.size w wr
def SiRel (wr : World) (S : List Ck) (x : Ck) (k : Nat) (jv : Value) (wx : World) : Prop := ∃ j : Nat, j ≤ k ∧ jv = .int .i64 j ∧ posB firstB x S j = posB firstB x S k ∧ Below wr.heap.size wr wx
theorem so_end {w w2 w5 : World} {qs S : List Ck} {x : Ck} {k J g3 d3 n : Nat} {l : List Value} (hk : k < qs.length) (hx : qs[k]! = x) (hS : sortB firstB (qs.take k) = S) (hJ : J ≤ k) (hp : posB firstB x S k = J) (hSl : S.length = k) (hn : n = k + 1) (hl : l = cellsL ((S.drop 0).take J) ++ [.int .i64 x.i, .string x.n, .string x.v, .string x.d, .string x.p, .bool x.ho, .bool x.sc, .bool x.ht, .int .i64 x.s, .int .i64 x.x, .int .i64 x.m, .int .i64 x.u] ++ cellsL ((S.drop J).take (k - J)))
    (hown : w5.ownsRow w2.heap.size 41 12 (.slice (some ⟨g3, 0, none⟩) n d3) n l) (hB2 : Below w.heap.size w w2) (hb : Below w2.heap.size w2 w5) : SoRel w qs (.slice (some ⟨g3, 0, none⟩) n d3) (.int .i64 ((k : Int) + 1)) w5 := by
  subst hn
  refine ⟨k + 1, g3, d3, by omega, by go_num, rfl, ?_, hB2.trans (hb.mono hB2.size)⟩
  have e : cellsL (sortB firstB (qs.take (k + 1))) = l := by
    rw [sortB_next firstB hk, hx, hS, hl]
    unfold insB
    rw [hSl, hp, cellsL_app, cellsL_cons, List.drop_zero, List.take_of_length_le (l := S.drop J) (by rw [List.length_drop]; omega), List.append_assoc]
    rfl
  rw [e]
  exact own_more hown hB2.size
set_option maxHeartbeats 4000000 in
set_option maxRecDepth 100000 in
theorem specSortL (v : Value) (B : Nat) (qs : List Ck) (w : World) (hv : RowCk w B v qs) (hl : qs.length < 20) : Calls Tryz.prog 111 #[v] w fun e w' => ∃ u, e = .returned u ∧ RowCk w' w.heap.size u (sortB firstB qs) ∧ Below w.heap.size w w' := by
  obtain ⟨a, cap, rfl, _, _, hx⟩ := hv
  have HX := Lib.hid hx
  clear hx
  go_enter Tryz.func111, Tryz.ntmps111
  go_wp2
  go_loopw [3, 4] (fun out i wr => SoRel w qs out i wr) (fun _ i _ => qs.length - (intOf i).toNat)
  case atStart =>
    exact ⟨0, w.heap.size, 0, Nat.zero_le _, rfl, rfl, ⟨rfl, .inr ⟨w.heap.size, 0, #[], rfl, Nat.le_refl _, heap_alloc_new _ _, Nat.le_refl _, Nat.zero_le _, rfl, rfl⟩⟩, (Below.refl _ _).alloc (Nat.le_refl _) _⟩
  case round =>
    obtain ⟨k, g, cap2, hk, rfl, rfl, hown, hb⟩ := hrel
    have HO := Lib.hid hown
    have HB := Lib.hid hb
    have hcp := (own_cap hown).1
    clear hown hb
    by_cases hlt : k < qs.length
    · have s1 : (k : Int) < qs.length := by omega
      obtain ⟨b, rfl, _, hlb, _, hcell⟩ := HX.out (by omega)
      have hck := (hcell k hlt).below HB.out hlb
      obtain ⟨x, hq⟩ : ∃ q : Ck, qs[k] = q := ⟨_, rfl⟩
      rw [hq] at hck
      have hxk : qs[k]! = x := by rw [getElem!_pos qs k hlt]; exact hq
      have HXK := Lib.hid hxk
      obtain ⟨S, hS⟩ : ∃ S, sortB firstB (qs.take k) = S := ⟨_, rfl⟩
      have hSl : S.length = k := by rw [← hS, sortB_length, List.length_take]; omega
      rw [hS] at HO
      have HS := Lib.hid hS
      have HCK := Lib.hid hck
      have hrow := rowCk_owned (qs := S) (by rw [hSl]; exact HO.out)
      have HR : Hid (∀ j (hj : j < S.length), g < wr.heap.size ∧ CkAt wr g (j * 12) S[j]) := Lib.hid fun j hj => by
        obtain ⟨a, cap, e1, _, _, h3⟩ := hrow
        obtain ⟨g', rfl, _, h4, _, h5⟩ := h3 (by omega)
        injection e1 with e2 e3 e4
        injection e2 with e2
        injection e2 with e2
        subst e2
        exact ⟨h4, h5 j hj⟩
      clear hcell hq hxk hck hS hrow
      go_wp2
      go_loopw [5] (fun jv wx => SiRel wr S x k jv wx) (fun i _ => (intOf i).toNat)
      case atStart => exact ⟨k, Nat.le_refl _, rfl, rfl, Below.refl _ _⟩
      case round =>
        obtain ⟨j, hjk, rfl, hpos, hb⟩ := hrel
        have HP := Lib.hid hpos
        have HB2 := Lib.hid hb
        clear hpos hb
        by_cases h0 : 0 < j
        · obtain ⟨jp, rfl⟩ : ∃ jp, j = jp + 1 := ⟨j - 1, by omega⟩
          obtain ⟨hg1, hcy⟩ := HR.out jp (by omega)
          have ckx := HCK.out.below HB2.out (Nat.lt_of_lt_of_le hlb HB.out.size)
          have cky := hcy.below HB2.out hg1
          obtain ⟨y, hy⟩ : ∃ y, S[jp] = y := ⟨_, rfl⟩
          rw [hy] at cky
          have hyk : Hid (S[jp]! = y) := Lib.hid (by rw [getElem!_pos S jp (by omega)]; exact hy)
          clear hcy hy
          have hN : Nonempty (BCl wr) := BCl.full wr
          obtain ⟨c0, c1, c2, c3, c4, c5, c6, c7, c8, c9, c10, c11⟩ := ckx
          obtain ⟨d0, d1, d2, d3, d4, d5, d6, d7, d8, d9, d10, d11⟩ := cky
          have q0x := BCl.cell c0
          have q1x := BCl.cell c1
          have q2x := BCl.cell c2
          have q3x := BCl.cell c3
          have q4x := BCl.cell c4
          have q5x := BCl.cell c5
          have q6x := BCl.cell c6
          have q7x := BCl.cell c7
          have q8x := BCl.cell c8
          have q9x := BCl.cell c9
          have q10x := BCl.cell c10
          have q11x := BCl.cell c11
          have r0x := BCl.cell d0
          have r1x := BCl.cell d1
          have r2x := BCl.cell d2
          have r3x := BCl.cell d3
          have r4x := BCl.cell d4
          have r5x := BCl.cell d5
          have r6x := BCl.cell d6
          have r7x := BCl.cell d7
          have r8x := BCl.cell d8
          have r9x := BCl.cell d9
          have r10x := BCl.cell d10
          have r11x := BCl.cell d11
          clear c0 c1 c2 c3 c4 c5 c6 c7 c8 c9 c10 c11 d0 d1 d2 d3 d4 d5 d6 d7 d8 d9 d10 d11
          have gj : (0 : Int) < (jp : Int) + 1 := by omega
          have gj2 : (jp : Int) < (k : Int) := by omega
          have gj3 : (0 : Int) ≤ (jp : Int) := by omega
          obtain ⟨r, hr⟩ : ∃ r, firstB x y = r := ⟨_, rfl⟩
          have HFR := Lib.hid hr
          go_wp2_with fail
          refine wp_region_below (fun w' => ∃ i : BCl wr, w' = i.w) (by kernel_rfl) (by kernel_rfl) (BCl.start wr) ?_
          repeat (go_big_quiet_step (first
            | (go_at_call 97; rename_i i; with_reducible refine (specFirstL x y i.w).mono ?_; rw [HFR.out]; intro e w' h; exact ⟨h.1, i.next h.2⟩)))
          refine wpQuiet_nil ?_
          intro _ hw'
          obtain ⟨i, rfl⟩ := hw'
          clear q0x r0x q1x r1x q2x r2x q3x r3x q4x r4x q5x r5x q6x r6x q7x r7x q8x r8x q9x r9x q10x r10x q11x r11x
          have HB3 := Lib.hid (HB2.out.trans (i.below.mono HB2.out.size))
          cases r with
          | true =>
            go_wp2_with fail
            go_roundw
            case rel =>
              have hlt2 : firstB x S[jp]! = true := by rw [hyk.out]; exact HFR.out
              exact ⟨jp, by omega, by go_num, (posB_go firstB (j := jp + 1) (Nat.succ_pos _) hlt2).symm.trans HP.out, HB3.out⟩
            case measure => first | (show (jp : Int).toNat < ((jp + 1 : Nat) : Int).toNat; omega) | (simp [intOf]; omega)
          | false =>
            have hlt2 : firstB x S[jp]! = false := by rw [hyk.out]; exact HFR.out
            have hst : posB firstB x S k = jp + 1 := HP.out.symm.trans (posB_stop firstB (j := jp + 1) (Or.inr hlt2))
            have HST := Lib.hid hst
            clear hst hlt2
            go_wp2_with fail
            obtain ⟨w2, hw2⟩ : ∃ w2, i.w = w2 := ⟨_, rfl⟩
            rw [hw2] at HB3 ⊢
            clear hw2 i
            have HO2 := Lib.hid (own_below HO.out HB3.out)
            have hlb2 : b < w2.heap.size := Nat.lt_of_lt_of_le (Nat.lt_of_lt_of_le hlb HB.out.size) HB3.out.size
            have hck2 := HCK.out.below HB3.out (Nat.lt_of_lt_of_le hlb HB.out.size)
            have HSX : Hid (∀ w' : World, Below w2.heap.size w2 w' → w'.cell? ⟨b, k * 12, none⟩ = some (.int .i64 x.i) ∧ w'.cell? ⟨b, k * 12 + 1, none⟩ = some (.string x.n) ∧ w'.cell? ⟨b, k * 12 + 2, none⟩ = some (.string x.v) ∧ w'.cell? ⟨b, k * 12 + 3, none⟩ = some (.string x.d) ∧ w'.cell? ⟨b, k * 12 + 4, none⟩ = some (.string x.p) ∧ w'.cell? ⟨b, k * 12 + 5, none⟩ = some (.bool x.ho) ∧ w'.cell? ⟨b, k * 12 + 6, none⟩ = some (.bool x.sc) ∧ w'.cell? ⟨b, k * 12 + 7, none⟩ = some (.bool x.ht) ∧ w'.cell? ⟨b, k * 12 + 8, none⟩ = some (.int .i64 x.s) ∧ w'.cell? ⟨b, k * 12 + 9, none⟩ = some (.int .i64 x.x) ∧ w'.cell? ⟨b, k * 12 + 10, none⟩ = some (.int .i64 x.m) ∧ w'.cell? ⟨b, k * 12 + 11, none⟩ = some (.int .i64 x.u) ∧ Below w2.heap.size w2 w') := Lib.hid fun w' hb => by
              obtain ⟨c0, c1, c2, c3, c4, c5, c6, c7, c8, c9, c10, c11⟩ := hck2.below hb hlb2
              exact ⟨c0, c1, c2, c3, c4, c5, c6, c7, c8, c9, c10, c11, hb⟩
            obtain ⟨c0, c1, c2, c3, c4, c5, c6, c7, c8, c9, c10, c11⟩ := hck2
            have jk0 : (0 : Int) ≤ ((jp : Int) + 1) := by omega
            have jk1 : ((jp : Int) + 1) ≤ (k : Int) := by omega
            have jk2 : (k : Int) ≤ (cap2 : Int) := by omega
            have jk3 : ((jp : Int) + 1) ≤ (cap2 : Int) := by omega
            have jk4 : (((jp : Int) + 1)).toNat = (jp + 1) := by omega
            have jk5 : ((k : Int) - ((jp : Int) + 1)).toNat = k - (jp + 1) := by omega
            obtain ⟨i0, hi, hzz⟩ := Option.map_eq_some_iff.1 info_cookie
            simp only [Prod.mk.injEq] at hzz
            obtain ⟨hz0, hz1, hz2⟩ := hzz
            have HI := Lib.hid (And.intro hi (And.intro hz0 (And.intro hz1 hz2)))
            clear hi hz0 hz1 hz2
            have hlA : (cellsL ((S.drop 0).take (jp + 1))).length = (jp + 1) * 12 := by rw [cellsL_length]; simp; omega
            have hlB : (cellsL ((S.drop (jp + 1)).take (k - (jp + 1)))).length = (k - (jp + 1)) * 12 := by rw [cellsL_length]; simp; omega
            have HL := Lib.hid (And.intro hlA hlB)
            clear hlA hlB
            by_cases jk6 : cap2 = (jp + 1)
            · have hz0 : Hid (k - (jp + 1) = 0) := Lib.hid (by omega)
              go_region_held_law (fun w' => w'.cell? ⟨b, k * 12, none⟩ = some (.int .i64 x.i) ∧ w'.cell? ⟨b, k * 12 + 1, none⟩ = some (.string x.n) ∧ w'.cell? ⟨b, k * 12 + 2, none⟩ = some (.string x.v) ∧ w'.cell? ⟨b, k * 12 + 3, none⟩ = some (.string x.d) ∧ w'.cell? ⟨b, k * 12 + 4, none⟩ = some (.string x.p) ∧ w'.cell? ⟨b, k * 12 + 5, none⟩ = some (.bool x.ho) ∧ w'.cell? ⟨b, k * 12 + 6, none⟩ = some (.bool x.sc) ∧ w'.cell? ⟨b, k * 12 + 7, none⟩ = some (.bool x.ht) ∧ w'.cell? ⟨b, k * 12 + 8, none⟩ = some (.int .i64 x.s) ∧ w'.cell? ⟨b, k * 12 + 9, none⟩ = some (.int .i64 x.x) ∧ w'.cell? ⟨b, k * 12 + 10, none⟩ = some (.int .i64 x.m) ∧ w'.cell? ⟨b, k * 12 + 11, none⟩ = some (.int .i64 x.u) ∧ Below w2.heap.size w2 w') (first | exact HSX.out _ BB5 | exact HSX.out _ BB4 | exact HSX.out _ (BB3.alloc BB3.size _) | exact HSX.out _ BB3 | exact HSX.out _ (Below.refl w2.heap.size w2).drew | exact HSX.out _ ((Below.refl w2.heap.size w2).alloc (Nat.le_refl _) _).drew | exact HSX.out _ (((Below.refl w2.heap.size w2).alloc (Nat.le_refl _) _).alloc (by simp) _).drew)
                (first
                  | (have hb0 := ((Below.refl w2.heap.size w2).alloc (Nat.le_refl _) (.cells #[] 41)).drew; refine step_append_any _ (by rfl) _ _ _ (by rfl) w2.heap.size 41 i0 _ 12 112 Tryz.underlying47 HI.out.1 HI.out.2.1 HI.out.2.2.1 HI.out.2.2.2 rfl (by decide) (.slice (some ⟨w2.heap.size, 0, none⟩) 0 0) 0 [] (by rfl) (own_at (heap_alloc_new _ _) (by simp)) ⟨g, 0 * 12, none⟩ (jp + 1) _ (cellsL ((S.drop 0).take (jp + 1))) (by rfl) HL.out.1 (src_out HO2.out hb0 0 (jp + 1) (by omega)) (one_cells _) (by unfold maxLen; omega) (by omega) hb0.size ?_; intro v1 w3 hown1 hgrow1; simp only [Nat.zero_add, List.nil_append] at hown1; have BB3 : Below w2.heap.size w2 w3 := ck_below_grow hb0 hgrow1 (fun r e => by have e2 : w2.heap.size = r := Option.some.inj e; omega))
                  | (have hb0 := (((Below.refl w2.heap.size w2).alloc (Nat.le_refl _) (.cells #[] 41)).alloc (by simp) (.cells #[.int .i64 x.i, .string x.n, .string x.v, .string x.d, .string x.p, .bool x.ho, .bool x.sc, .bool x.ht, .int .i64 x.s, .int .i64 x.x, .int .i64 x.m, .int .i64 x.u] 41)).drew; refine step_append_any _ (by rfl) _ _ _ (by rfl) w2.heap.size 41 i0 _ 12 112 Tryz.underlying47 HI.out.1 HI.out.2.1 HI.out.2.2.1 HI.out.2.2.2 rfl (by decide) (.slice (some ⟨w2.heap.size, 0, none⟩) 0 0) 0 [] (by rfl) (own_at (old_two _ _ _) (by simp)) ⟨g, 0 * 12, none⟩ (jp + 1) _ (cellsL ((S.drop 0).take (jp + 1))) (by rfl) HL.out.1 (src_out HO2.out hb0 0 (jp + 1) (by omega)) (one_cells _) (by unfold maxLen; omega) (by omega) hb0.size ?_; intro v1 w3 hown1 hgrow1; simp only [Nat.zero_add, List.nil_append] at hown1; have BB3 : Below w2.heap.size w2 w3 := ck_below_grow hb0 hgrow1 (fun r e => by have e2 : w2.heap.size = r := Option.some.inj e; omega))
                  | (have hb0 := (((Below.refl w2.heap.size w2).alloc (Nat.le_refl _) (.cells #[.int .i64 x.i, .string x.n, .string x.v, .string x.d, .string x.p, .bool x.ho, .bool x.sc, .bool x.ht, .int .i64 x.s, .int .i64 x.x, .int .i64 x.m, .int .i64 x.u] 41)).alloc (by simp) (.cells #[] 41)).drew; refine step_append_any _ (by rfl) _ _ _ (by rfl) w2.heap.size 41 i0 _ 12 112 Tryz.underlying47 HI.out.1 HI.out.2.1 HI.out.2.2.1 HI.out.2.2.2 rfl (by decide) (.slice (some ⟨w2.heap.size + 1, 0, none⟩) 0 0) 0 [] (by rfl) (own_at (new_two _ _ _) (by simp)) ⟨g, 0 * 12, none⟩ (jp + 1) _ (cellsL ((S.drop 0).take (jp + 1))) (by rfl) HL.out.1 (src_out HO2.out hb0 0 (jp + 1) (by omega)) (one_cells _) (by unfold maxLen; omega) (by omega) hb0.size ?_; intro v1 w3 hown1 hgrow1; simp only [Nat.zero_add, List.nil_append] at hown1; have BB3 : Below w2.heap.size w2 w3 := ck_below_grow hb0 hgrow1 (fun r e => by have e2 : w2.heap.size + 1 = r := Option.some.inj e; omega))
                  | (refine step_append_any _ (by rfl) _ _ _ (by rfl) w2.heap.size 41 i0 _ 12 112 Tryz.underlying47 HI.out.1 HI.out.2.1 HI.out.2.2.1 HI.out.2.2.2 rfl (by decide) v1 (jp + 1) (cellsL ((S.drop 0).take (jp + 1))) (by rfl) (hown1.alloc _) ⟨w3.heap.size, 0, none⟩ 1 1 [.int .i64 x.i, .string x.n, .string x.v, .string x.d, .string x.p, .bool x.ho, .bool x.sc, .bool x.ht, .int .i64 x.s, .int .i64 x.x, .int .i64 x.m, .int .i64 x.u] (by rfl) (by rfl) (World.news_of_block (cs := #[.int .i64 x.i, .string x.n, .string x.v, .string x.d, .string x.p, .bool x.ho, .bool x.sc, .bool x.ht, .int .i64 x.s, .int .i64 x.x, .int .i64 x.m, .int .i64 x.u]) (t := 41) (fr := (0, 0)) (heap_alloc_new w3 _)) (one_cookie x) (by unfold maxLen; omega) (by omega) (BB3.alloc BB3.size (.cells #[.int .i64 x.i, .string x.n, .string x.v, .string x.d, .string x.p, .bool x.ho, .bool x.sc, .bool x.ht, .int .i64 x.s, .int .i64 x.x, .int .i64 x.m, .int .i64 x.u] 41)).size ?_; intro v2 w4 hown2 hgrow2; have BB4 : Below w2.heap.size w2 w4 := ck_below_grow (BB3.alloc BB3.size (.cells #[.int .i64 x.i, .string x.n, .string x.v, .string x.d, .string x.p, .bool x.ho, .bool x.sc, .bool x.ht, .int .i64 x.s, .int .i64 x.x, .int .i64 x.m, .int .i64 x.u] 41)) hgrow2 (fun r e => (hown1.lt r e).1))
                  | (refine step_append_any _ (by rfl) _ _ _ (by rfl) w2.heap.size 41 i0 _ 12 112 Tryz.underlying47 HI.out.1 HI.out.2.1 HI.out.2.2.1 HI.out.2.2.2 rfl (by decide) v1 (jp + 1) (cellsL ((S.drop 0).take (jp + 1))) (by rfl) hown1 ⟨w2.heap.size + 1, 0, none⟩ 1 1 [.int .i64 x.i, .string x.n, .string x.v, .string x.d, .string x.p, .bool x.ho, .bool x.sc, .bool x.ht, .int .i64 x.s, .int .i64 x.x, .int .i64 x.m, .int .i64 x.u] (by rfl) (by rfl) (World.news_of_block (cs := #[.int .i64 x.i, .string x.n, .string x.v, .string x.d, .string x.p, .bool x.ho, .bool x.sc, .bool x.ht, .int .i64 x.s, .int .i64 x.x, .int .i64 x.m, .int .i64 x.u]) (t := 41) (fr := (0, 0)) ((hgrow1.block (w2.heap.size + 1) (by simp <;> omega) (by simp [Value.ownBlock])).trans (new_two w2 _ _))) (one_cookie x) (by unfold maxLen; omega) (by omega) BB3.size ?_; intro v2 w4 hown2 hgrow2; have BB4 : Below w2.heap.size w2 w4 := ck_below_grow BB3 hgrow2 (fun r e => (hown1.lt r e).1))
                  | (refine step_append_any _ (by rfl) _ _ _ (by rfl) w2.heap.size 41 i0 _ 12 112 Tryz.underlying47 HI.out.1 HI.out.2.1 HI.out.2.2.1 HI.out.2.2.2 rfl (by decide) v1 (jp + 1) (cellsL ((S.drop 0).take (jp + 1))) (by rfl) hown1 ⟨w2.heap.size, 0, none⟩ 1 1 [.int .i64 x.i, .string x.n, .string x.v, .string x.d, .string x.p, .bool x.ho, .bool x.sc, .bool x.ht, .int .i64 x.s, .int .i64 x.x, .int .i64 x.m, .int .i64 x.u] (by rfl) (by rfl) (World.news_of_block (cs := #[.int .i64 x.i, .string x.n, .string x.v, .string x.d, .string x.p, .bool x.ho, .bool x.sc, .bool x.ht, .int .i64 x.s, .int .i64 x.x, .int .i64 x.m, .int .i64 x.u]) (t := 41) (fr := (0, 0)) ((hgrow1.block w2.heap.size (by simp <;> omega) (by simp [Value.ownBlock])).trans (old_two w2 _ _))) (one_cookie x) (by unfold maxLen; omega) (by omega) BB3.size ?_; intro v2 w4 hown2 hgrow2; have BB4 : Below w2.heap.size w2 w4 := ck_below_grow BB3 hgrow2 (fun r e => (hown1.lt r e).1))
                  | (refine step_append_any _ (by rfl) _ _ _ (by rfl) w2.heap.size 41 i0 _ 12 112 Tryz.underlying47 HI.out.1 HI.out.2.1 HI.out.2.2.1 HI.out.2.2.2 rfl (by decide) v2 ((jp + 1) + 1) (cellsL ((S.drop 0).take (jp + 1)) ++ [.int .i64 x.i, .string x.n, .string x.v, .string x.d, .string x.p, .bool x.ho, .bool x.sc, .bool x.ht, .int .i64 x.s, .int .i64 x.x, .int .i64 x.m, .int .i64 x.u]) (by rfl) hown2 ⟨g, 0, none⟩ (k - (jp + 1)) _ (cellsL ((S.drop (jp + 1)).take (k - (jp + 1)))) (by rfl) HL.out.2 (src_none (by rw [HL.out.2, hz0.out])) (one_cells _) (by unfold maxLen; omega) (by omega) BB4.size ?_; intro v3 w5 hown3 hgrow3; have BB5 : Below w2.heap.size w2 w5 := ck_below_grow BB4 hgrow3 (fun r e => (hown2.lt r e).1))
                  | fail)
              all_goals
                clear HSX
                go_wp2_with fail
                go_roundw
                case rel =>
                  obtain ⟨g3, d3, rfl, _⟩ := hown3.form (by omega)
                  exact so_end hlt HXK.out HS.out (by omega) HST.out hSl (by omega) rfl hown3 (HB.out.trans (HB3.out.mono HB.out.size)) BB5
                case measure => simp [intOf]; omega
            · go_region_held_law (fun w' => w'.cell? ⟨b, k * 12, none⟩ = some (.int .i64 x.i) ∧ w'.cell? ⟨b, k * 12 + 1, none⟩ = some (.string x.n) ∧ w'.cell? ⟨b, k * 12 + 2, none⟩ = some (.string x.v) ∧ w'.cell? ⟨b, k * 12 + 3, none⟩ = some (.string x.d) ∧ w'.cell? ⟨b, k * 12 + 4, none⟩ = some (.string x.p) ∧ w'.cell? ⟨b, k * 12 + 5, none⟩ = some (.bool x.ho) ∧ w'.cell? ⟨b, k * 12 + 6, none⟩ = some (.bool x.sc) ∧ w'.cell? ⟨b, k * 12 + 7, none⟩ = some (.bool x.ht) ∧ w'.cell? ⟨b, k * 12 + 8, none⟩ = some (.int .i64 x.s) ∧ w'.cell? ⟨b, k * 12 + 9, none⟩ = some (.int .i64 x.x) ∧ w'.cell? ⟨b, k * 12 + 10, none⟩ = some (.int .i64 x.m) ∧ w'.cell? ⟨b, k * 12 + 11, none⟩ = some (.int .i64 x.u) ∧ Below w2.heap.size w2 w') (first | exact HSX.out _ BB5 | exact HSX.out _ BB4 | exact HSX.out _ (BB3.alloc BB3.size _) | exact HSX.out _ BB3 | exact HSX.out _ (Below.refl w2.heap.size w2).drew | exact HSX.out _ ((Below.refl w2.heap.size w2).alloc (Nat.le_refl _) _).drew | exact HSX.out _ (((Below.refl w2.heap.size w2).alloc (Nat.le_refl _) _).alloc (by simp) _).drew)
                (first
                  | (have hb0 := ((Below.refl w2.heap.size w2).alloc (Nat.le_refl _) (.cells #[] 41)).drew; refine step_append_any _ (by rfl) _ _ _ (by rfl) w2.heap.size 41 i0 _ 12 112 Tryz.underlying47 HI.out.1 HI.out.2.1 HI.out.2.2.1 HI.out.2.2.2 rfl (by decide) (.slice (some ⟨w2.heap.size, 0, none⟩) 0 0) 0 [] (by rfl) (own_at (heap_alloc_new _ _) (by simp)) ⟨g, 0 * 12, none⟩ (jp + 1) _ (cellsL ((S.drop 0).take (jp + 1))) (by rfl) HL.out.1 (src_out HO2.out hb0 0 (jp + 1) (by omega)) (one_cells _) (by unfold maxLen; omega) (by omega) hb0.size ?_; intro v1 w3 hown1 hgrow1; simp only [Nat.zero_add, List.nil_append] at hown1; have BB3 : Below w2.heap.size w2 w3 := ck_below_grow hb0 hgrow1 (fun r e => by have e2 : w2.heap.size = r := Option.some.inj e; omega))
                  | (have hb0 := (((Below.refl w2.heap.size w2).alloc (Nat.le_refl _) (.cells #[] 41)).alloc (by simp) (.cells #[.int .i64 x.i, .string x.n, .string x.v, .string x.d, .string x.p, .bool x.ho, .bool x.sc, .bool x.ht, .int .i64 x.s, .int .i64 x.x, .int .i64 x.m, .int .i64 x.u] 41)).drew; refine step_append_any _ (by rfl) _ _ _ (by rfl) w2.heap.size 41 i0 _ 12 112 Tryz.underlying47 HI.out.1 HI.out.2.1 HI.out.2.2.1 HI.out.2.2.2 rfl (by decide) (.slice (some ⟨w2.heap.size, 0, none⟩) 0 0) 0 [] (by rfl) (own_at (old_two _ _ _) (by simp)) ⟨g, 0 * 12, none⟩ (jp + 1) _ (cellsL ((S.drop 0).take (jp + 1))) (by rfl) HL.out.1 (src_out HO2.out hb0 0 (jp + 1) (by omega)) (one_cells _) (by unfold maxLen; omega) (by omega) hb0.size ?_; intro v1 w3 hown1 hgrow1; simp only [Nat.zero_add, List.nil_append] at hown1; have BB3 : Below w2.heap.size w2 w3 := ck_below_grow hb0 hgrow1 (fun r e => by have e2 : w2.heap.size = r := Option.some.inj e; omega))
                  | (have hb0 := (((Below.refl w2.heap.size w2).alloc (Nat.le_refl _) (.cells #[.int .i64 x.i, .string x.n, .string x.v, .string x.d, .string x.p, .bool x.ho, .bool x.sc, .bool x.ht, .int .i64 x.s, .int .i64 x.x, .int .i64 x.m, .int .i64 x.u] 41)).alloc (by simp) (.cells #[] 41)).drew; refine step_append_any _ (by rfl) _ _ _ (by rfl) w2.heap.size 41 i0 _ 12 112 Tryz.underlying47 HI.out.1 HI.out.2.1 HI.out.2.2.1 HI.out.2.2.2 rfl (by decide) (.slice (some ⟨w2.heap.size + 1, 0, none⟩) 0 0) 0 [] (by rfl) (own_at (new_two _ _ _) (by simp)) ⟨g, 0 * 12, none⟩ (jp + 1) _ (cellsL ((S.drop 0).take (jp + 1))) (by rfl) HL.out.1 (src_out HO2.out hb0 0 (jp + 1) (by omega)) (one_cells _) (by unfold maxLen; omega) (by omega) hb0.size ?_; intro v1 w3 hown1 hgrow1; simp only [Nat.zero_add, List.nil_append] at hown1; have BB3 : Below w2.heap.size w2 w3 := ck_below_grow hb0 hgrow1 (fun r e => by have e2 : w2.heap.size + 1 = r := Option.some.inj e; omega))
                  | (refine step_append_any _ (by rfl) _ _ _ (by rfl) w2.heap.size 41 i0 _ 12 112 Tryz.underlying47 HI.out.1 HI.out.2.1 HI.out.2.2.1 HI.out.2.2.2 rfl (by decide) v1 (jp + 1) (cellsL ((S.drop 0).take (jp + 1))) (by rfl) (hown1.alloc _) ⟨w3.heap.size, 0, none⟩ 1 1 [.int .i64 x.i, .string x.n, .string x.v, .string x.d, .string x.p, .bool x.ho, .bool x.sc, .bool x.ht, .int .i64 x.s, .int .i64 x.x, .int .i64 x.m, .int .i64 x.u] (by rfl) (by rfl) (World.news_of_block (cs := #[.int .i64 x.i, .string x.n, .string x.v, .string x.d, .string x.p, .bool x.ho, .bool x.sc, .bool x.ht, .int .i64 x.s, .int .i64 x.x, .int .i64 x.m, .int .i64 x.u]) (t := 41) (fr := (0, 0)) (heap_alloc_new w3 _)) (one_cookie x) (by unfold maxLen; omega) (by omega) (BB3.alloc BB3.size (.cells #[.int .i64 x.i, .string x.n, .string x.v, .string x.d, .string x.p, .bool x.ho, .bool x.sc, .bool x.ht, .int .i64 x.s, .int .i64 x.x, .int .i64 x.m, .int .i64 x.u] 41)).size ?_; intro v2 w4 hown2 hgrow2; have BB4 : Below w2.heap.size w2 w4 := ck_below_grow (BB3.alloc BB3.size (.cells #[.int .i64 x.i, .string x.n, .string x.v, .string x.d, .string x.p, .bool x.ho, .bool x.sc, .bool x.ht, .int .i64 x.s, .int .i64 x.x, .int .i64 x.m, .int .i64 x.u] 41)) hgrow2 (fun r e => (hown1.lt r e).1))
                  | (refine step_append_any _ (by rfl) _ _ _ (by rfl) w2.heap.size 41 i0 _ 12 112 Tryz.underlying47 HI.out.1 HI.out.2.1 HI.out.2.2.1 HI.out.2.2.2 rfl (by decide) v1 (jp + 1) (cellsL ((S.drop 0).take (jp + 1))) (by rfl) hown1 ⟨w2.heap.size + 1, 0, none⟩ 1 1 [.int .i64 x.i, .string x.n, .string x.v, .string x.d, .string x.p, .bool x.ho, .bool x.sc, .bool x.ht, .int .i64 x.s, .int .i64 x.x, .int .i64 x.m, .int .i64 x.u] (by rfl) (by rfl) (World.news_of_block (cs := #[.int .i64 x.i, .string x.n, .string x.v, .string x.d, .string x.p, .bool x.ho, .bool x.sc, .bool x.ht, .int .i64 x.s, .int .i64 x.x, .int .i64 x.m, .int .i64 x.u]) (t := 41) (fr := (0, 0)) ((hgrow1.block (w2.heap.size + 1) (by simp <;> omega) (by simp [Value.ownBlock])).trans (new_two w2 _ _))) (one_cookie x) (by unfold maxLen; omega) (by omega) BB3.size ?_; intro v2 w4 hown2 hgrow2; have BB4 : Below w2.heap.size w2 w4 := ck_below_grow BB3 hgrow2 (fun r e => (hown1.lt r e).1))
                  | (refine step_append_any _ (by rfl) _ _ _ (by rfl) w2.heap.size 41 i0 _ 12 112 Tryz.underlying47 HI.out.1 HI.out.2.1 HI.out.2.2.1 HI.out.2.2.2 rfl (by decide) v1 (jp + 1) (cellsL ((S.drop 0).take (jp + 1))) (by rfl) hown1 ⟨w2.heap.size, 0, none⟩ 1 1 [.int .i64 x.i, .string x.n, .string x.v, .string x.d, .string x.p, .bool x.ho, .bool x.sc, .bool x.ht, .int .i64 x.s, .int .i64 x.x, .int .i64 x.m, .int .i64 x.u] (by rfl) (by rfl) (World.news_of_block (cs := #[.int .i64 x.i, .string x.n, .string x.v, .string x.d, .string x.p, .bool x.ho, .bool x.sc, .bool x.ht, .int .i64 x.s, .int .i64 x.x, .int .i64 x.m, .int .i64 x.u]) (t := 41) (fr := (0, 0)) ((hgrow1.block w2.heap.size (by simp <;> omega) (by simp [Value.ownBlock])).trans (old_two w2 _ _))) (one_cookie x) (by unfold maxLen; omega) (by omega) BB3.size ?_; intro v2 w4 hown2 hgrow2; have BB4 : Below w2.heap.size w2 w4 := ck_below_grow BB3 hgrow2 (fun r e => (hown1.lt r e).1))
                  | (refine step_append_any _ (by rfl) _ _ _ (by rfl) w2.heap.size 41 i0 _ 12 112 Tryz.underlying47 HI.out.1 HI.out.2.1 HI.out.2.2.1 HI.out.2.2.2 rfl (by decide) v2 ((jp + 1) + 1) (cellsL ((S.drop 0).take (jp + 1)) ++ [.int .i64 x.i, .string x.n, .string x.v, .string x.d, .string x.p, .bool x.ho, .bool x.sc, .bool x.ht, .int .i64 x.s, .int .i64 x.x, .int .i64 x.m, .int .i64 x.u]) (by rfl) hown2 ⟨g, (jp + 1) * 12, none⟩ (k - (jp + 1)) _ (cellsL ((S.drop (jp + 1)).take (k - (jp + 1)))) (by rfl) HL.out.2 (src_out HO2.out BB4 (jp + 1) (k - (jp + 1)) (by omega)) (one_cells _) (by unfold maxLen; omega) (by omega) BB4.size ?_; intro v3 w5 hown3 hgrow3; have BB5 : Below w2.heap.size w2 w5 := ck_below_grow BB4 hgrow3 (fun r e => (hown2.lt r e).1))
                  | fail)
              all_goals
                clear HSX
                go_wp2_with fail
                go_roundw
                case rel =>
                  obtain ⟨g3, d3, rfl, _⟩ := hown3.form (by omega)
                  exact so_end hlt HXK.out HS.out (by omega) HST.out hSl (by omega) rfl hown3 (HB.out.trans (HB3.out.mono HB.out.size)) BB5
                case measure => simp [intOf]; omega
        · have hj0 : j = 0 := by omega
          have gz : ¬ (0 : Int) < (j : Int) := by omega
          have gz2 : decide ((j : Int) > 0) = false := decide_eq_false (by omega)
          have hst : posB firstB x S k = j := HP.out.symm.trans (by rw [hj0]; rfl)
          have HST := Lib.hid hst
          have HJ0 := Lib.hid hj0
          clear hst hj0
          have hN : Nonempty (BCl wr) := BCl.full wr
          go_wp2_with fail
          refine wp_region_below (fun w' => ∃ i : BCl wr, w' = i.w) (by kernel_rfl) (by kernel_rfl) (BCl.start wr) ?_
          repeat (go_big_quiet_step (first | fail))
          refine wpQuiet_nil ?_
          intro _ hw'
          obtain ⟨i, rfl⟩ := hw'
          have HB3 := Lib.hid (HB2.out.trans (i.below.mono HB2.out.size))
          go_wp2_with fail
          obtain ⟨w2, hw2⟩ : ∃ w2, i.w = w2 := ⟨_, rfl⟩
          rw [hw2] at HB3 ⊢
          clear hw2 i
          have HO2 := Lib.hid (own_below HO.out HB3.out)
          have hlb2 : b < w2.heap.size := Nat.lt_of_lt_of_le (Nat.lt_of_lt_of_le hlb HB.out.size) HB3.out.size
          have hck2 := HCK.out.below HB3.out (Nat.lt_of_lt_of_le hlb HB.out.size)
          have HSX : Hid (∀ w' : World, Below w2.heap.size w2 w' → w'.cell? ⟨b, k * 12, none⟩ = some (.int .i64 x.i) ∧ w'.cell? ⟨b, k * 12 + 1, none⟩ = some (.string x.n) ∧ w'.cell? ⟨b, k * 12 + 2, none⟩ = some (.string x.v) ∧ w'.cell? ⟨b, k * 12 + 3, none⟩ = some (.string x.d) ∧ w'.cell? ⟨b, k * 12 + 4, none⟩ = some (.string x.p) ∧ w'.cell? ⟨b, k * 12 + 5, none⟩ = some (.bool x.ho) ∧ w'.cell? ⟨b, k * 12 + 6, none⟩ = some (.bool x.sc) ∧ w'.cell? ⟨b, k * 12 + 7, none⟩ = some (.bool x.ht) ∧ w'.cell? ⟨b, k * 12 + 8, none⟩ = some (.int .i64 x.s) ∧ w'.cell? ⟨b, k * 12 + 9, none⟩ = some (.int .i64 x.x) ∧ w'.cell? ⟨b, k * 12 + 10, none⟩ = some (.int .i64 x.m) ∧ w'.cell? ⟨b, k * 12 + 11, none⟩ = some (.int .i64 x.u) ∧ Below w2.heap.size w2 w') := Lib.hid fun w' hb => by
            obtain ⟨c0, c1, c2, c3, c4, c5, c6, c7, c8, c9, c10, c11⟩ := hck2.below hb hlb2
            exact ⟨c0, c1, c2, c3, c4, c5, c6, c7, c8, c9, c10, c11, hb⟩
          obtain ⟨c0, c1, c2, c3, c4, c5, c6, c7, c8, c9, c10, c11⟩ := hck2
          have jk0 : (0 : Int) ≤ (j : Int) := by omega
          have jk1 : (j : Int) ≤ (k : Int) := by omega
          have jk2 : (k : Int) ≤ (cap2 : Int) := by omega
          have jk3 : (j : Int) ≤ (cap2 : Int) := by omega
          have jk4 : ((j : Int)).toNat = j := by omega
          have jk5 : ((k : Int) - (j : Int)).toNat = k - j := by omega
          obtain ⟨i0, hi, hzz⟩ := Option.map_eq_some_iff.1 info_cookie
          simp only [Prod.mk.injEq] at hzz
          obtain ⟨hz0, hz1, hz2⟩ := hzz
          have HI := Lib.hid (And.intro hi (And.intro hz0 (And.intro hz1 hz2)))
          clear hi hz0 hz1 hz2
          have hlA : (cellsL ((S.drop 0).take j)).length = j * 12 := by rw [cellsL_length]; simp; omega
          have hlB : (cellsL ((S.drop j).take (k - j))).length = (k - j) * 12 := by rw [cellsL_length]; simp; omega
          have HL := Lib.hid (And.intro hlA hlB)
          clear hlA hlB
          by_cases jk6 : cap2 = j
          · have hz0 : Hid (k - j = 0) := Lib.hid (by omega)
            go_region_held_law (fun w' => w'.cell? ⟨b, k * 12, none⟩ = some (.int .i64 x.i) ∧ w'.cell? ⟨b, k * 12 + 1, none⟩ = some (.string x.n) ∧ w'.cell? ⟨b, k * 12 + 2, none⟩ = some (.string x.v) ∧ w'.cell? ⟨b, k * 12 + 3, none⟩ = some (.string x.d) ∧ w'.cell? ⟨b, k * 12 + 4, none⟩ = some (.string x.p) ∧ w'.cell? ⟨b, k * 12 + 5, none⟩ = some (.bool x.ho) ∧ w'.cell? ⟨b, k * 12 + 6, none⟩ = some (.bool x.sc) ∧ w'.cell? ⟨b, k * 12 + 7, none⟩ = some (.bool x.ht) ∧ w'.cell? ⟨b, k * 12 + 8, none⟩ = some (.int .i64 x.s) ∧ w'.cell? ⟨b, k * 12 + 9, none⟩ = some (.int .i64 x.x) ∧ w'.cell? ⟨b, k * 12 + 10, none⟩ = some (.int .i64 x.m) ∧ w'.cell? ⟨b, k * 12 + 11, none⟩ = some (.int .i64 x.u) ∧ Below w2.heap.size w2 w') (first | exact HSX.out _ BB5 | exact HSX.out _ BB4 | exact HSX.out _ (BB3.alloc BB3.size _) | exact HSX.out _ BB3 | exact HSX.out _ (Below.refl w2.heap.size w2).drew | exact HSX.out _ ((Below.refl w2.heap.size w2).alloc (Nat.le_refl _) _).drew | exact HSX.out _ (((Below.refl w2.heap.size w2).alloc (Nat.le_refl _) _).alloc (by simp) _).drew)
              (first
                | (have hb0 := ((Below.refl w2.heap.size w2).alloc (Nat.le_refl _) (.cells #[] 41)).drew; refine step_append_any _ (by rfl) _ _ _ (by rfl) w2.heap.size 41 i0 _ 12 112 Tryz.underlying47 HI.out.1 HI.out.2.1 HI.out.2.2.1 HI.out.2.2.2 rfl (by decide) (.slice (some ⟨w2.heap.size, 0, none⟩) 0 0) 0 [] (by rfl) (own_at (heap_alloc_new _ _) (by simp)) ⟨g, 0 * 12, none⟩ j _ (cellsL ((S.drop 0).take j)) (by rfl) HL.out.1 (src_out HO2.out hb0 0 j (by omega)) (one_cells _) (by unfold maxLen; omega) (by omega) hb0.size ?_; intro v1 w3 hown1 hgrow1; simp only [Nat.zero_add, List.nil_append] at hown1; have BB3 : Below w2.heap.size w2 w3 := ck_below_grow hb0 hgrow1 (fun r e => by have e2 : w2.heap.size = r := Option.some.inj e; omega))
                | (have hb0 := (((Below.refl w2.heap.size w2).alloc (Nat.le_refl _) (.cells #[] 41)).alloc (by simp) (.cells #[.int .i64 x.i, .string x.n, .string x.v, .string x.d, .string x.p, .bool x.ho, .bool x.sc, .bool x.ht, .int .i64 x.s, .int .i64 x.x, .int .i64 x.m, .int .i64 x.u] 41)).drew; refine step_append_any _ (by rfl) _ _ _ (by rfl) w2.heap.size 41 i0 _ 12 112 Tryz.underlying47 HI.out.1 HI.out.2.1 HI.out.2.2.1 HI.out.2.2.2 rfl (by decide) (.slice (some ⟨w2.heap.size, 0, none⟩) 0 0) 0 [] (by rfl) (own_at (old_two _ _ _) (by simp)) ⟨g, 0 * 12, none⟩ j _ (cellsL ((S.drop 0).take j)) (by rfl) HL.out.1 (src_out HO2.out hb0 0 j (by omega)) (one_cells _) (by unfold maxLen; omega) (by omega) hb0.size ?_; intro v1 w3 hown1 hgrow1; simp only [Nat.zero_add, List.nil_append] at hown1; have BB3 : Below w2.heap.size w2 w3 := ck_below_grow hb0 hgrow1 (fun r e => by have e2 : w2.heap.size = r := Option.some.inj e; omega))
                | (have hb0 := (((Below.refl w2.heap.size w2).alloc (Nat.le_refl _) (.cells #[.int .i64 x.i, .string x.n, .string x.v, .string x.d, .string x.p, .bool x.ho, .bool x.sc, .bool x.ht, .int .i64 x.s, .int .i64 x.x, .int .i64 x.m, .int .i64 x.u] 41)).alloc (by simp) (.cells #[] 41)).drew; refine step_append_any _ (by rfl) _ _ _ (by rfl) w2.heap.size 41 i0 _ 12 112 Tryz.underlying47 HI.out.1 HI.out.2.1 HI.out.2.2.1 HI.out.2.2.2 rfl (by decide) (.slice (some ⟨w2.heap.size + 1, 0, none⟩) 0 0) 0 [] (by rfl) (own_at (new_two _ _ _) (by simp)) ⟨g, 0 * 12, none⟩ j _ (cellsL ((S.drop 0).take j)) (by rfl) HL.out.1 (src_out HO2.out hb0 0 j (by omega)) (one_cells _) (by unfold maxLen; omega) (by omega) hb0.size ?_; intro v1 w3 hown1 hgrow1; simp only [Nat.zero_add, List.nil_append] at hown1; have BB3 : Below w2.heap.size w2 w3 := ck_below_grow hb0 hgrow1 (fun r e => by have e2 : w2.heap.size + 1 = r := Option.some.inj e; omega))
                | (refine step_append_any _ (by rfl) _ _ _ (by rfl) w2.heap.size 41 i0 _ 12 112 Tryz.underlying47 HI.out.1 HI.out.2.1 HI.out.2.2.1 HI.out.2.2.2 rfl (by decide) v1 j (cellsL ((S.drop 0).take j)) (by rfl) (hown1.alloc _) ⟨w3.heap.size, 0, none⟩ 1 1 [.int .i64 x.i, .string x.n, .string x.v, .string x.d, .string x.p, .bool x.ho, .bool x.sc, .bool x.ht, .int .i64 x.s, .int .i64 x.x, .int .i64 x.m, .int .i64 x.u] (by rfl) (by rfl) (World.news_of_block (cs := #[.int .i64 x.i, .string x.n, .string x.v, .string x.d, .string x.p, .bool x.ho, .bool x.sc, .bool x.ht, .int .i64 x.s, .int .i64 x.x, .int .i64 x.m, .int .i64 x.u]) (t := 41) (fr := (0, 0)) (heap_alloc_new w3 _)) (one_cookie x) (by unfold maxLen; omega) (by omega) (BB3.alloc BB3.size (.cells #[.int .i64 x.i, .string x.n, .string x.v, .string x.d, .string x.p, .bool x.ho, .bool x.sc, .bool x.ht, .int .i64 x.s, .int .i64 x.x, .int .i64 x.m, .int .i64 x.u] 41)).size ?_; intro v2 w4 hown2 hgrow2; have BB4 : Below w2.heap.size w2 w4 := ck_below_grow (BB3.alloc BB3.size (.cells #[.int .i64 x.i, .string x.n, .string x.v, .string x.d, .string x.p, .bool x.ho, .bool x.sc, .bool x.ht, .int .i64 x.s, .int .i64 x.x, .int .i64 x.m, .int .i64 x.u] 41)) hgrow2 (fun r e => (hown1.lt r e).1))
                | (refine step_append_any _ (by rfl) _ _ _ (by rfl) w2.heap.size 41 i0 _ 12 112 Tryz.underlying47 HI.out.1 HI.out.2.1 HI.out.2.2.1 HI.out.2.2.2 rfl (by decide) v1 j (cellsL ((S.drop 0).take j)) (by rfl) hown1 ⟨w2.heap.size + 1, 0, none⟩ 1 1 [.int .i64 x.i, .string x.n, .string x.v, .string x.d, .string x.p, .bool x.ho, .bool x.sc, .bool x.ht, .int .i64 x.s, .int .i64 x.x, .int .i64 x.m, .int .i64 x.u] (by rfl) (by rfl) (World.news_of_block (cs := #[.int .i64 x.i, .string x.n, .string x.v, .string x.d, .string x.p, .bool x.ho, .bool x.sc, .bool x.ht, .int .i64 x.s, .int .i64 x.x, .int .i64 x.m, .int .i64 x.u]) (t := 41) (fr := (0, 0)) ((hgrow1.block (w2.heap.size + 1) (by simp <;> omega) (by simp [Value.ownBlock])).trans (new_two w2 _ _))) (one_cookie x) (by unfold maxLen; omega) (by omega) BB3.size ?_; intro v2 w4 hown2 hgrow2; have BB4 : Below w2.heap.size w2 w4 := ck_below_grow BB3 hgrow2 (fun r e => (hown1.lt r e).1))
                | (refine step_append_any _ (by rfl) _ _ _ (by rfl) w2.heap.size 41 i0 _ 12 112 Tryz.underlying47 HI.out.1 HI.out.2.1 HI.out.2.2.1 HI.out.2.2.2 rfl (by decide) v1 j (cellsL ((S.drop 0).take j)) (by rfl) hown1 ⟨w2.heap.size, 0, none⟩ 1 1 [.int .i64 x.i, .string x.n, .string x.v, .string x.d, .string x.p, .bool x.ho, .bool x.sc, .bool x.ht, .int .i64 x.s, .int .i64 x.x, .int .i64 x.m, .int .i64 x.u] (by rfl) (by rfl) (World.news_of_block (cs := #[.int .i64 x.i, .string x.n, .string x.v, .string x.d, .string x.p, .bool x.ho, .bool x.sc, .bool x.ht, .int .i64 x.s, .int .i64 x.x, .int .i64 x.m, .int .i64 x.u]) (t := 41) (fr := (0, 0)) ((hgrow1.block w2.heap.size (by simp <;> omega) (by simp [Value.ownBlock])).trans (old_two w2 _ _))) (one_cookie x) (by unfold maxLen; omega) (by omega) BB3.size ?_; intro v2 w4 hown2 hgrow2; have BB4 : Below w2.heap.size w2 w4 := ck_below_grow BB3 hgrow2 (fun r e => (hown1.lt r e).1))
                | (refine step_append_any _ (by rfl) _ _ _ (by rfl) w2.heap.size 41 i0 _ 12 112 Tryz.underlying47 HI.out.1 HI.out.2.1 HI.out.2.2.1 HI.out.2.2.2 rfl (by decide) v2 (j + 1) (cellsL ((S.drop 0).take j) ++ [.int .i64 x.i, .string x.n, .string x.v, .string x.d, .string x.p, .bool x.ho, .bool x.sc, .bool x.ht, .int .i64 x.s, .int .i64 x.x, .int .i64 x.m, .int .i64 x.u]) (by rfl) hown2 ⟨g, 0, none⟩ (k - j) _ (cellsL ((S.drop j).take (k - j))) (by rfl) HL.out.2 (src_none (by rw [HL.out.2, hz0.out])) (one_cells _) (by unfold maxLen; omega) (by omega) BB4.size ?_; intro v3 w5 hown3 hgrow3; have BB5 : Below w2.heap.size w2 w5 := ck_below_grow BB4 hgrow3 (fun r e => (hown2.lt r e).1))
                | fail)
            all_goals
              clear HSX
              go_wp2_with fail
              go_roundw
              case rel =>
                obtain ⟨g3, d3, rfl, _⟩ := hown3.form (by omega)
                exact so_end hlt HXK.out HS.out (by omega) HST.out hSl (by omega) rfl hown3 (HB.out.trans (HB3.out.mono HB.out.size)) BB5
              case measure => simp [intOf]; omega
          · go_region_held_law (fun w' => w'.cell? ⟨b, k * 12, none⟩ = some (.int .i64 x.i) ∧ w'.cell? ⟨b, k * 12 + 1, none⟩ = some (.string x.n) ∧ w'.cell? ⟨b, k * 12 + 2, none⟩ = some (.string x.v) ∧ w'.cell? ⟨b, k * 12 + 3, none⟩ = some (.string x.d) ∧ w'.cell? ⟨b, k * 12 + 4, none⟩ = some (.string x.p) ∧ w'.cell? ⟨b, k * 12 + 5, none⟩ = some (.bool x.ho) ∧ w'.cell? ⟨b, k * 12 + 6, none⟩ = some (.bool x.sc) ∧ w'.cell? ⟨b, k * 12 + 7, none⟩ = some (.bool x.ht) ∧ w'.cell? ⟨b, k * 12 + 8, none⟩ = some (.int .i64 x.s) ∧ w'.cell? ⟨b, k * 12 + 9, none⟩ = some (.int .i64 x.x) ∧ w'.cell? ⟨b, k * 12 + 10, none⟩ = some (.int .i64 x.m) ∧ w'.cell? ⟨b, k * 12 + 11, none⟩ = some (.int .i64 x.u) ∧ Below w2.heap.size w2 w') (first | exact HSX.out _ BB5 | exact HSX.out _ BB4 | exact HSX.out _ (BB3.alloc BB3.size _) | exact HSX.out _ BB3 | exact HSX.out _ (Below.refl w2.heap.size w2).drew | exact HSX.out _ ((Below.refl w2.heap.size w2).alloc (Nat.le_refl _) _).drew | exact HSX.out _ (((Below.refl w2.heap.size w2).alloc (Nat.le_refl _) _).alloc (by simp) _).drew)
              (first
                | (have hb0 := ((Below.refl w2.heap.size w2).alloc (Nat.le_refl _) (.cells #[] 41)).drew; refine step_append_any _ (by rfl) _ _ _ (by rfl) w2.heap.size 41 i0 _ 12 112 Tryz.underlying47 HI.out.1 HI.out.2.1 HI.out.2.2.1 HI.out.2.2.2 rfl (by decide) (.slice (some ⟨w2.heap.size, 0, none⟩) 0 0) 0 [] (by rfl) (own_at (heap_alloc_new _ _) (by simp)) ⟨g, 0 * 12, none⟩ j _ (cellsL ((S.drop 0).take j)) (by rfl) HL.out.1 (src_out HO2.out hb0 0 j (by omega)) (one_cells _) (by unfold maxLen; omega) (by omega) hb0.size ?_; intro v1 w3 hown1 hgrow1; simp only [Nat.zero_add, List.nil_append] at hown1; have BB3 : Below w2.heap.size w2 w3 := ck_below_grow hb0 hgrow1 (fun r e => by have e2 : w2.heap.size = r := Option.some.inj e; omega))
                | (have hb0 := (((Below.refl w2.heap.size w2).alloc (Nat.le_refl _) (.cells #[] 41)).alloc (by simp) (.cells #[.int .i64 x.i, .string x.n, .string x.v, .string x.d, .string x.p, .bool x.ho, .bool x.sc, .bool x.ht, .int .i64 x.s, .int .i64 x.x, .int .i64 x.m, .int .i64 x.u] 41)).drew; refine step_append_any _ (by rfl) _ _ _ (by rfl) w2.heap.size 41 i0 _ 12 112 Tryz.underlying47 HI.out.1 HI.out.2.1 HI.out.2.2.1 HI.out.2.2.2 rfl (by decide) (.slice (some ⟨w2.heap.size, 0, none⟩) 0 0) 0 [] (by rfl) (own_at (old_two _ _ _) (by simp)) ⟨g, 0 * 12, none⟩ j _ (cellsL ((S.drop 0).take j)) (by rfl) HL.out.1 (src_out HO2.out hb0 0 j (by omega)) (one_cells _) (by unfold maxLen; omega) (by omega) hb0.size ?_; intro v1 w3 hown1 hgrow1; simp only [Nat.zero_add, List.nil_append] at hown1; have BB3 : Below w2.heap.size w2 w3 := ck_below_grow hb0 hgrow1 (fun r e => by have e2 : w2.heap.size = r := Option.some.inj e; omega))
                | (have hb0 := (((Below.refl w2.heap.size w2).alloc (Nat.le_refl _) (.cells #[.int .i64 x.i, .string x.n, .string x.v, .string x.d, .string x.p, .bool x.ho, .bool x.sc, .bool x.ht, .int .i64 x.s, .int .i64 x.x, .int .i64 x.m, .int .i64 x.u] 41)).alloc (by simp) (.cells #[] 41)).drew; refine step_append_any _ (by rfl) _ _ _ (by rfl) w2.heap.size 41 i0 _ 12 112 Tryz.underlying47 HI.out.1 HI.out.2.1 HI.out.2.2.1 HI.out.2.2.2 rfl (by decide) (.slice (some ⟨w2.heap.size + 1, 0, none⟩) 0 0) 0 [] (by rfl) (own_at (new_two _ _ _) (by simp)) ⟨g, 0 * 12, none⟩ j _ (cellsL ((S.drop 0).take j)) (by rfl) HL.out.1 (src_out HO2.out hb0 0 j (by omega)) (one_cells _) (by unfold maxLen; omega) (by omega) hb0.size ?_; intro v1 w3 hown1 hgrow1; simp only [Nat.zero_add, List.nil_append] at hown1; have BB3 : Below w2.heap.size w2 w3 := ck_below_grow hb0 hgrow1 (fun r e => by have e2 : w2.heap.size + 1 = r := Option.some.inj e; omega))
                | (refine step_append_any _ (by rfl) _ _ _ (by rfl) w2.heap.size 41 i0 _ 12 112 Tryz.underlying47 HI.out.1 HI.out.2.1 HI.out.2.2.1 HI.out.2.2.2 rfl (by decide) v1 j (cellsL ((S.drop 0).take j)) (by rfl) (hown1.alloc _) ⟨w3.heap.size, 0, none⟩ 1 1 [.int .i64 x.i, .string x.n, .string x.v, .string x.d, .string x.p, .bool x.ho, .bool x.sc, .bool x.ht, .int .i64 x.s, .int .i64 x.x, .int .i64 x.m, .int .i64 x.u] (by rfl) (by rfl) (World.news_of_block (cs := #[.int .i64 x.i, .string x.n, .string x.v, .string x.d, .string x.p, .bool x.ho, .bool x.sc, .bool x.ht, .int .i64 x.s, .int .i64 x.x, .int .i64 x.m, .int .i64 x.u]) (t := 41) (fr := (0, 0)) (heap_alloc_new w3 _)) (one_cookie x) (by unfold maxLen; omega) (by omega) (BB3.alloc BB3.size (.cells #[.int .i64 x.i, .string x.n, .string x.v, .string x.d, .string x.p, .bool x.ho, .bool x.sc, .bool x.ht, .int .i64 x.s, .int .i64 x.x, .int .i64 x.m, .int .i64 x.u] 41)).size ?_; intro v2 w4 hown2 hgrow2; have BB4 : Below w2.heap.size w2 w4 := ck_below_grow (BB3.alloc BB3.size (.cells #[.int .i64 x.i, .string x.n, .string x.v, .string x.d, .string x.p, .bool x.ho, .bool x.sc, .bool x.ht, .int .i64 x.s, .int .i64 x.x, .int .i64 x.m, .int .i64 x.u] 41)) hgrow2 (fun r e => (hown1.lt r e).1))
                | (refine step_append_any _ (by rfl) _ _ _ (by rfl) w2.heap.size 41 i0 _ 12 112 Tryz.underlying47 HI.out.1 HI.out.2.1 HI.out.2.2.1 HI.out.2.2.2 rfl (by decide) v1 j (cellsL ((S.drop 0).take j)) (by rfl) hown1 ⟨w2.heap.size + 1, 0, none⟩ 1 1 [.int .i64 x.i, .string x.n, .string x.v, .string x.d, .string x.p, .bool x.ho, .bool x.sc, .bool x.ht, .int .i64 x.s, .int .i64 x.x, .int .i64 x.m, .int .i64 x.u] (by rfl) (by rfl) (World.news_of_block (cs := #[.int .i64 x.i, .string x.n, .string x.v, .string x.d, .string x.p, .bool x.ho, .bool x.sc, .bool x.ht, .int .i64 x.s, .int .i64 x.x, .int .i64 x.m, .int .i64 x.u]) (t := 41) (fr := (0, 0)) ((hgrow1.block (w2.heap.size + 1) (by simp <;> omega) (by simp [Value.ownBlock])).trans (new_two w2 _ _))) (one_cookie x) (by unfold maxLen; omega) (by omega) BB3.size ?_; intro v2 w4 hown2 hgrow2; have BB4 : Below w2.heap.size w2 w4 := ck_below_grow BB3 hgrow2 (fun r e => (hown1.lt r e).1))
                | (refine step_append_any _ (by rfl) _ _ _ (by rfl) w2.heap.size 41 i0 _ 12 112 Tryz.underlying47 HI.out.1 HI.out.2.1 HI.out.2.2.1 HI.out.2.2.2 rfl (by decide) v1 j (cellsL ((S.drop 0).take j)) (by rfl) hown1 ⟨w2.heap.size, 0, none⟩ 1 1 [.int .i64 x.i, .string x.n, .string x.v, .string x.d, .string x.p, .bool x.ho, .bool x.sc, .bool x.ht, .int .i64 x.s, .int .i64 x.x, .int .i64 x.m, .int .i64 x.u] (by rfl) (by rfl) (World.news_of_block (cs := #[.int .i64 x.i, .string x.n, .string x.v, .string x.d, .string x.p, .bool x.ho, .bool x.sc, .bool x.ht, .int .i64 x.s, .int .i64 x.x, .int .i64 x.m, .int .i64 x.u]) (t := 41) (fr := (0, 0)) ((hgrow1.block w2.heap.size (by simp <;> omega) (by simp [Value.ownBlock])).trans (old_two w2 _ _))) (one_cookie x) (by unfold maxLen; omega) (by omega) BB3.size ?_; intro v2 w4 hown2 hgrow2; have BB4 : Below w2.heap.size w2 w4 := ck_below_grow BB3 hgrow2 (fun r e => (hown1.lt r e).1))
                | (refine step_append_any _ (by rfl) _ _ _ (by rfl) w2.heap.size 41 i0 _ 12 112 Tryz.underlying47 HI.out.1 HI.out.2.1 HI.out.2.2.1 HI.out.2.2.2 rfl (by decide) v2 (j + 1) (cellsL ((S.drop 0).take j) ++ [.int .i64 x.i, .string x.n, .string x.v, .string x.d, .string x.p, .bool x.ho, .bool x.sc, .bool x.ht, .int .i64 x.s, .int .i64 x.x, .int .i64 x.m, .int .i64 x.u]) (by rfl) hown2 ⟨g, j * 12, none⟩ (k - j) _ (cellsL ((S.drop j).take (k - j))) (by rfl) HL.out.2 (src_out HO2.out BB4 j (k - j) (by omega)) (one_cells _) (by unfold maxLen; omega) (by omega) BB4.size ?_; intro v3 w5 hown3 hgrow3; have BB5 : Below w2.heap.size w2 w5 := ck_below_grow BB4 hgrow3 (fun r e => (hown2.lt r e).1))
                | fail)
            all_goals
              clear HSX
              go_wp2_with fail
              go_roundw
              case rel =>
                obtain ⟨g3, d3, rfl, _⟩ := hown3.form (by omega)
                exact so_end hlt HXK.out HS.out (by omega) HST.out hSl (by omega) rfl hown3 (HB.out.trans (HB3.out.mono HB.out.size)) BB5
              case measure => simp [intOf]; omega
    · obtain rfl : k = qs.length := by omega
      go_wp2
      go_ret
      have h := HO.out
      rw [List.take_length] at h
      exact ⟨_, rfl, rowCk_owned (by rw [sortB_length]; exact h), HB.out⟩
end Go.Proofs.YtpdonghdnaehhaaGreatDoor
