/- The model's look at numbers twice. No condition of its own. -/
import Derived.Test.YtcaabnnkjnleeaaDoorTrAll
namespace Go.Proofs.YtcaabnnkjnleeaaDoor
open Go.ChangeShapes Go.WideShapes Go.ChangeAt Go.WideMaps Go.WideElems Go.RowKit

theorem nodup_iff : ∀ zs : List Int, nodupB zs = true ↔ zs.Nodup
  | [] => by simp [nodupB]
  | a :: l => by simp [nodupB, nodup_iff l]
/-- Place i's number stands at no place before k. -/
def trNewAt (zs : List Int) (i k : Nat) : Prop := ∀ (h : i < zs.length) (j : Nat) (hj : j < k) (h2 : j < i), zs[j] ≠ zs[i]
def NewUp (zs : List Int) (i : Nat) : Prop := ∀ m, m < i → trNewAt zs m m
theorem nodup_yes {zs : List Int} {k : Nat} (h : NewUp zs k) (hk : zs.length ≤ k) : nodupB zs = true := by
  rw [nodup_iff, List.nodup_iff_pairwise_ne, List.pairwise_iff_getElem]
  exact fun i j hi hj hij => h j (by omega) hj i hij hij
theorem nodup_no {zs : List Int} {i j : Nat} (hi : i < zs.length) (hj : j < i) (he : zs[j] = zs[i]) : nodupB zs = false := by
  cases e : nodupB zs with
  | false => rfl
  | true =>
    rw [nodup_iff, List.nodup_iff_pairwise_ne, List.pairwise_iff_getElem] at e
    exact (e j i (by omega) hi hj he).elim
set_option maxHeartbeats 2000000 in
set_option maxRecDepth 100000 in
theorem specRoom_any (A B n : Nat) (z : Bool) (t : Tr) (vi vk : Value) (w : World) (hwt : wtT n t ≤ 1048576) (hB : B ≤ w.heap.size) (h : NodeIn w A B z n t vi vk) : Calls Tryd.prog 70 #[.agg #[.string t.l, vi, vk]] w fun e w' => e = .returned (.bool (nodupB (allT n t) && decide ((allT n t).length ≤ 16))) ∧ Below w.heap.size w w' := by
  have hal := all_light n t
  have HN := Lib.hid h
  have BA : Hid (Below w.heap.size w (w.alloc (.cells #[.string t.l, vi, vk] 30))) := Lib.hid ((Below.refl _ _).alloc (Nat.le_refl _) _)
  have H0 : Hid ((w.alloc (.cells #[.string t.l, vi, vk] 30)).heap[w.heap.size]? = _) := Lib.hid (heap_alloc_new _ _)
  clear h
  obtain ⟨c0, c1, c2⟩ := node_cells H0.out
  have HALL := Lib.hid (specAll_any A B z n t vi vk _ hwt (Nat.le_trans hB BA.out.size) (HN.out.below BA.out hB))
  obtain ⟨zs, hzs⟩ : ∃ zs, allT n t = zs := ⟨_, rfl⟩
  rw [hzs] at hal HALL ⊢
  clear hzs HN
  go_enter Tryd.func70, Tryd.ntmps70
  go_wp2_with fail
  refine HALL.out.mono ?_
  rintro e w1 ⟨g, cap, rfl, hown, hb⟩
  have B1 := Lib.hid (BA.out.trans (hb.mono BA.out.size))
  have HC := Lib.hid (src_own hown)
  have hg : g < w1.heap.size := by
    obtain ⟨_, ⟨h0, _⟩ | ⟨_, _, _, e0, _, hh, _⟩⟩ := hown
    · cases h0
    · injection e0 with e1
      injection e1 with e1
      injection e1 with e1
      subst e1
      exact (Array.getElem?_eq_some_iff.1 hh).1
  clear hb hown c0 c1 c2 H0 HALL
  go_wp2
  go_loopw [4] (fun i wr => ∃ k : Nat, k ≤ zs.length ∧ i = .int .i64 k ∧ NewUp zs k ∧ Below w1.heap.size w1 wr) (fun i _ => zs.length - (intOf i).toNat)
  case atStart => exact ⟨0, Nat.zero_le _, rfl, (fun j h => by omega), Below.refl _ _⟩
  case round =>
    obtain ⟨i, hi, rfl, hup, hbel⟩ := hrel
    have HX := Lib.hid hbel
    have HU := Lib.hid hup
    clear hbel hup
    by_cases hlt : i < zs.length
    · obtain ⟨x, hx⟩ : ∃ x : Int, zs[i] = x := ⟨_, rfl⟩
      have HXI := Lib.hid hx
      clear hx
      have s1 : (i : Int) < zs.length := by omega
      go_wp2
      go_loopw [5] (fun k wq => ∃ j : Nat, j ≤ i ∧ k = .int .i64 j ∧ trNewAt zs i j ∧ Below w1.heap.size w1 wq) (fun k _ => i - (intOf k).toNat)
      case atStart => exact ⟨0, Nat.zero_le _, rfl, (fun _ j h => by omega), HX.out⟩
      case round =>
        obtain ⟨j, hj, rfl, hnew, hbel⟩ := hrel
        have HY := Lib.hid hbel
        have HW := Lib.hid hnew
        clear hbel hnew
        by_cases hjl : j < i
        · obtain ⟨y, hy⟩ : ∃ y : Int, zs[j] = y := ⟨_, rfl⟩
          have q1 : (j : Int) < i := by omega
          have q2 : (j : Int) < zs.length := by omega
          have c1 : wr.cell? ⟨g, i, none⟩ = some (.int .i64 x) := by
            rw [← HXI.out]
            have h0 := HC.out i (.int .i64 zs[i]) (by simp [rowZ])
            rw [Go.WideShapes.add_plain] at h0
            have := (HY.out.cell (p := ⟨g, 0 + i, none⟩) hg).trans h0
            simpa using this
          have c2 : wr.cell? ⟨g, j, none⟩ = some (.int .i64 y) := by
            rw [← hy]
            have h0 := HC.out j (.int .i64 zs[j]) (by simp [rowZ])
            rw [Go.WideShapes.add_plain] at h0
            have := (HY.out.cell (p := ⟨g, 0 + j, none⟩) hg).trans h0
            simpa using this
          by_cases hxy : y = x
          · have HZ : Hid (nodupB zs = false) := Lib.hid (nodup_no hlt hjl (by rw [hy, HXI.out, hxy]))
            have e1 : (y == x) = true := by rw [hxy]; simp
            clear hy
            go_wp2
            go_quiet (fail)
            go_wp2
            go_ret
            refine ⟨bool_end ?_, B1.out.trans ((below_drewN HY.out _).mono B1.out.size)⟩
            rw [HZ.out, Bool.false_and]
          · have HNW : Hid (trNewAt zs i (j + 1)) := Lib.hid fun h m hm h2 => by
              rcases Nat.lt_succ_iff_lt_or_eq.1 hm with h3 | h3
              · exact HW.out h m h3 h2
              · subst h3
                rw [hy, HXI.out]
                exact hxy
            have e1 : (y == x) = false := by simpa using hxy
            clear hy
            go_wp2
            go_quiet (fail)
            go_wp2
            go_roundw
            case rel => exact ⟨j + 1, by omega, by go_num, HNW.out, below_drewN HY.out _⟩
            case measure => simp [intOf]; omega
        · have q1 : ¬ (j : Int) < i := by omega
          have e : j = i := by omega
          subst e
          go_wp2
          go_roundw
          case rel => exact ⟨j + 1, by omega, by go_num, (fun m hm => by rcases Nat.lt_succ_iff_lt_or_eq.1 hm with h | h; exact HU.out m h; rw [h]; exact HW.out), HY.out⟩
          case measure => simp [intOf]; omega
    · have HZ : Hid (nodupB zs = true) := Lib.hid (nodup_yes HU.out (by omega))
      have s1 : ¬ (i : Int) < zs.length := by omega
      clear hlt
      go_wp2
      go_ret
      refine ⟨bool_end ?_, B1.out.trans (HX.out.mono B1.out.size)⟩
      rw [HZ.out, Bool.true_and]
      rw [Bool.eq_iff_iff]
      simp only [decide_eq_true_eq]
      omega
end Go.Proofs.YtcaabnnkjnleeaaDoor
