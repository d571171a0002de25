/- The model's count of nodes. No condition of its own. -/
import Derived.Test.YtcaabnnkjnleeaaDoorTrTo
import Derived.BigQuiet
namespace Go.Proofs.YtcaabnnkjnleeaaDoor
open Go.ChangeShapes Go.WideShapes Go.ChangeAt Go.WideMaps Go.WideElems Go.RowKit

def widF (n : Nat) (m : Int) (c : Int) (k : Tr) : Int := if c ≤ m then c + widT n k (m - c) else c
theorem widT_succ (n : Nat) (t : Tr) (m : Int) : widT (n + 1) t m = t.ks.foldl (widF n m) 1 := rfl
theorem wid_stuck (n : Nat) (m : Int) : ∀ (ks : List Tr) (c : Int), ¬ c ≤ m → ks.foldl (widF n m) c = c
  | [], _, _ => rfl
  | k :: ks, c, h => by
    rw [List.foldl_cons, show widF n m c k = c by unfold widF; rw [if_neg h]]
    exact wid_stuck n m ks c h
theorem cnt_light : ∀ (n : Nat) (t : Tr), cntT n t ≤ 1 + wtT n t
  | 0, _ => by simp [cntT]
  | n + 1, t => by
    have : ∀ ks : List Tr, (ks.map (cntT n)).sum ≤ ks.length + wtK n ks := by
      intro ks
      induction ks with
      | nil => simp [wtK]
      | cons k ks ih =>
        have := cnt_light n k
        simp only [wtK, List.map_cons, List.sum_cons, List.length_cons] at ih ⊢
        omega
    have := this t.ks
    have hw : wtT (n + 1) t = t.l.size + t.ids.length + (t.ks.length + wtK n t.ks) := rfl
    simp only [cntT]
    omega
theorem wid_fold_le (n : Nat) (m : Int) (ih : ∀ (k : Tr) (m : Int), 0 ≤ widT n k m ∧ widT n k m ≤ cntT n k) : ∀ (ks : List Tr) (c : Int), c ≤ ks.foldl (widF n m) c ∧ ks.foldl (widF n m) c ≤ c + ((ks.map (cntT n)).sum : Nat)
  | [], c => by simp
  | k :: ks, c => by
    rw [List.foldl_cons]
    have h := wid_fold_le n m ih ks (widF n m c k)
    have hk := ih k (m - c)
    have hf : c ≤ widF n m c k ∧ widF n m c k ≤ c + cntT n k := by
      unfold widF
      split <;> omega
    simp only [List.map_cons, List.sum_cons, Int.natCast_add]
    omega
theorem wid_le : ∀ (n : Nat) (t : Tr) (m : Int), 0 ≤ widT n t m ∧ widT n t m ≤ cntT n t
  | 0, _, _ => by simp [widT, cntT]
  | n + 1, t, m => by
    have h := wid_fold_le n m (wid_le n) t.ks 1
    rw [widT_succ]
    simp only [cntT, Int.natCast_add]
    omega
def WdRel (wA : World) (n : Nat) (m : Int) (ks : List Tr) (c i : Value) (wr : World) : Prop := ∃ (j : Nat) (x : Int), j ≤ ks.length ∧ i = .int .i64 j ∧ c = .int .i64 x ∧ 1 ≤ x ∧ x ≤ 1 + (((ks.take j).map (cntT n)).sum : Nat) ∧ (ks.drop j).foldl (widF n m) x = ks.foldl (widF n m) 1 ∧ Below wA.heap.size wA wr
theorem cnt_take {n : Nat} {ks : List Tr} {k : Nat} (h : k < ks.length) : ((ks.take (k + 1)).map (cntT n)).sum = ((ks.take k).map (cntT n)).sum + cntT n ks[k] := by
  rw [List.take_succ_eq_append_getElem h, List.map_append, List.sum_append]
  simp
theorem cnt_take_le (n : Nat) (ks : List Tr) (k : Nat) : ((ks.take k).map (cntT n)).sum ≤ ks.length + wtK n ks := by
  have h1 : (ks.map (cntT n)).sum = ((ks.take k).map (cntT n)).sum + ((ks.drop k).map (cntT n)).sum := by
    rw [← List.sum_append, ← List.map_append, List.take_append_drop]
  have h2 : ∀ ks : List Tr, (ks.map (cntT n)).sum ≤ ks.length + wtK n ks := by
    intro ks
    induction ks with
    | nil => simp [wtK]
    | cons k ks ih =>
      have := cnt_light n k
      simp only [wtK, List.map_cons, List.sum_cons, List.length_cons] at ih ⊢
      omega
  have := h2 ks
  omega
set_option maxHeartbeats 2000000 in
set_option maxRecDepth 100000 in
theorem specWidth_any (A B : Nat) (z : Bool) : ∀ (n : Nat) (t : Tr) (vi vk : Value) (m : Int) (w : World), wtT n t ≤ 1048576 → -1000000000 ≤ m → m ≤ 1000000000 → B ≤ w.heap.size → NodeIn w A B z n t vi vk → Calls Tryd.prog 51 #[.agg #[.string t.l, vi, vk], .int .i64 m] w fun e w' => e = .returned (.int .i64 (widT n t m)) ∧ Below w.heap.size w w' := by
  intro n
  induction n with
  | zero => intro t vi vk m w _ _ _ _ h; exact h.elim
  | succ n ih =>
    intro t vi vk m w hwt hm1 hm2 hB h
    have hw : wtT (n + 1) t = t.l.size + t.ids.length + (t.ks.length + wtK n t.ks) := rfl
    rw [hw] at hwt
    rw [widT_succ]
    obtain ⟨_, hk⟩ := h.parts
    obtain ⟨l, hl⟩ : ∃ l, t.l = l := ⟨_, rfl⟩
    obtain ⟨ks, hks⟩ : ∃ ks, t.ks = ks := ⟨_, rfl⟩
    rw [hl, hks] at hwt
    rw [hks] at hk
    rw [hl, hks]
    obtain ⟨a, cap, rfl, hle, hcm, hx⟩ := hk
    have HX := Lib.hid hx
    have IH := Lib.hid ih
    clear hx ih h hw hl hks
    have BA : Hid (Below w.heap.size w (w.alloc (.cells #[.string l, vi, .slice a ks.length cap] 30))) := Lib.hid ((Below.refl _ _).alloc (Nat.le_refl _) _)
    have H0 : Hid ((w.alloc (.cells #[.string l, vi, .slice a ks.length cap] 30)).heap[w.heap.size]? = _) := Lib.hid (heap_alloc_new _ _)
    obtain ⟨wA, hwA⟩ : ∃ wA, w.alloc (.cells #[.string l, vi, .slice a ks.length cap] 30) = wA := ⟨_, rfl⟩
    have hlt0 : w.heap.size < wA.heap.size := by rw [← hwA]; simp
    go_enter Tryd.func51, Tryd.ntmps51
    go_wp2_with fail
    rw [hwA] at BA H0
    go_loopw [5, 6] (fun c i wr => WdRel wA n m ks c i wr) (fun _ i _ => ks.length - (intOf i).toNat)
    case atStart => exact ⟨0, 1, Nat.zero_le _, rfl, rfl, Int.le_refl _, by simp, rfl, Below.refl _ _⟩
    case round =>
      obtain ⟨j, x, hj, rfl, rfl, hx1, hx2, hfo, hb⟩ := hrel
      have HB := Lib.hid hb
      have HF := Lib.hid hfo
      have hct := cnt_take_le n ks j
      have hx3 : x ≤ 1048577 := by omega
      obtain ⟨c0, c1, c2⟩ := node_cells ((hb.block w.heap.size hlt0).trans H0.out)
      have BW := Lib.hid (BA.out.trans (hb.mono BA.out.size))
      clear hb hfo
      by_cases hlt : j < ks.length
      · have s1 : (j : Int) < ks.length := by omega
        by_cases hle2 : x ≤ m
        · obtain ⟨g, off, rfl, _, hgB, hcell⟩ := HX.out (by omega)
          obtain ⟨q, hq⟩ : ∃ q : Tr, ks[j] = q := ⟨_, rfl⟩
          obtain ⟨_, _, k0, ui, uk, k1, k2, hN⟩ := hcell j hlt
          have hwq : wtT n ks[j] ≤ wtK n ks := kid_light (List.getElem_mem hlt)
          rw [hq] at k0 hN hwq
          have k0 := (BW.out.cell (p := ⟨g, off + j * 3, none⟩) (by show g < _; omega)).trans k0
          have k1 := (BW.out.cell (p := ⟨g, off + j * 3 + 1, none⟩) (by show g < _; omega)).trans k1
          have k2 := (BW.out.cell (p := ⟨g, off + j * 3 + 2, none⟩) (by show g < _; omega)).trans k2
          have HN := Lib.hid (hN.below BW.out hB)
          have hwl := wid_le n q (m - x)
          have hcq := cnt_light n q
          have htk := cnt_take (n := n) hlt
          rw [hq] at htk
          have HTK := Lib.hid htk
          have hdr : (ks.drop j).foldl (widF n m) x = (ks.drop (j + 1)).foldl (widF n m) (x + widT n q (m - x)) := by
            rw [List.drop_eq_getElem_cons hlt, List.foldl_cons, hq, show widF n m x q = x + widT n q (m - x) by unfold widF; rw [if_pos hle2]]
          have HDR := Lib.hid hdr
          clear hcell hq hN htk hdr
          go_wp2_with fail
          refine (IH.out q ui uk (m - x) _ (by omega) (by omega) (by omega) (Nat.le_trans hB BW.out.size) HN.out).mono ?_
          rintro e w1 ⟨rfl, hb⟩
          have HB1 := Lib.hid (HB.out.trans (hb.mono HB.out.size))
          clear hb
          go_wp2_with fail
          go_roundw
          case rel => exact ⟨j + 1, x + widT n q (m - x), by omega, by go_num, by go_num, by omega, by rw [HTK.out]; omega, by rw [← HDR.out]; exact HF.out, HB1.out⟩
          case measure => simp [intOf]; omega
        · have hfin : ks.foldl (widF n m) 1 = x := by rw [← HF.out]; exact wid_stuck n m _ x hle2
          have HFIN := Lib.hid hfin
          clear hfin
          go_wp2_with fail
          go_ret
          exact ⟨by rw [HFIN.out]; rfl, BW.out⟩
      · have hfin : ks.foldl (widF n m) 1 = x := by rw [← HF.out, List.drop_of_length_le (by omega)]; rfl
        have HFIN := Lib.hid hfin
        have s1 : ¬ (j : Int) < ks.length := by omega
        clear hfin
        go_wp2_with fail
        go_ret
        exact ⟨by rw [HFIN.out]; rfl, BW.out⟩
end Go.Proofs.YtcaabnnkjnleeaaDoor
