/- Heaps of the law: what is pushed, removed, sorted and told is a heap. No condition. -/
import Derived.Test.YteaapglkomlnhaaHpHeap
import Derived.Test.YteaapglkomlnhaaHpSame
import Derived.Test.YteaapglkomlnhaaHpUntil
import Derived.Test.YteaapglkomlnhaaHpPop
import Derived.Test.YteaapglkomlnhaaHpPushS
namespace Go.Proofs.Yteaapglkomlnhaa

def sizS (s : Sl) : Prop := inRange s.i 1 1000000000000 = true ∧ inRange s.k 0 2000000000000 = true
/-- The plain form of a valid heap. -/
def HpF (qs : List Sl) : Prop := qs.length ≤ 16 ∧ (∀ s ∈ qs, sizS s) ∧ (qs.map (·.i)).Nodup ∧ HpO qs
theorem hpB_F {qs : List Sl} : hpB qs = true ↔ HpF qs := by
  rw [hpB_iff]
  constructor
  · rintro ⟨hl, h⟩
    refine ⟨hl, fun s hs => ?_, at_first fun j hj => (h j hj).2.2.1, fun j j0 hj => (h j hj).2.2.2 j0⟩
    obtain ⟨j, hj, rfl⟩ := List.getElem_of_mem hs
    have := h j hj
    rw [← getElem!_pos qs j hj]
    exact ⟨this.1, this.2.1⟩
  · rintro ⟨hl, h1, h2, h3⟩
    refine ⟨hl, fun j hj => ?_⟩
    have hm := h1 qs[j]! (by rw [getElem!_pos qs j hj]; exact List.getElem_mem hj)
    exact ⟨hm.1, hm.2, first_at h2 hj, fun j0 => h3 j j0 hj⟩
theorem hpF_nil : HpF [] := ⟨Nat.zero_le _, fun s h => by simp at h, List.nodup_nil, fun j _ h => by simp at h⟩
theorem codeS_F {qs : List Sl} : codeS qs = 0 ↔ HpF qs := by
  constructor
  · intro h
    exact hpB_F.1 (codeS_short h).2
  · intro h
    unfold codeS
    rw [if_neg (by have := h.1; omega), if_pos (hpB_F.2 h)]
theorem take_F {qs : List Sl} (h : HpF qs) {i : Nat} (hi : i < qs.length) : HpF (takeL qs i) := by
  have hp := take_perm hi
  refine ⟨by have := h.1; rw [takeL_length]; omega, fun s hs => h.2.1 s (hp.mem_iff.1 (List.mem_cons_of_mem _ hs)), ?_, take_keeps h.2.2.2 hi⟩
  have := (hp.map (·.i)).nodup_iff.2 h.2.2.1
  rw [List.map_cons, List.nodup_cons] at this
  exact this.2
theorem rem_F (qs : List Sl) (id : Int) : HpF (remL qs id) := by
  unfold remL
  split
  · rename_i h
    have hf := codeS_F.1 h
    split
    · exact hf
    · rename_i h2
      rcases atS_range qs id with e | ⟨j, hj, e⟩
      · rw [e] at h2
        exact absurd (by decide) h2
      · rw [e]
        exact take_F hf hj
  · exact hpF_nil
theorem rem_len {qs : List Sl} {id : Int} (h : remC qs id = 0) : (remL qs id).length + 1 = qs.length := by
  unfold remC at h
  unfold remL
  by_cases hc : codeS qs = 0
  · rw [if_pos hc] at h ⊢
    by_cases h2 : atS qs id < 0
    · rw [if_pos h2] at h
      cases h
    · rw [if_neg h2]
      rcases atS_range qs id with e | ⟨j, hj, e⟩
      · rw [e] at h2
        exact absurd (by decide) h2
      · rw [takeL_length]
        omega
  · rw [if_neg hc] at h
    exact absurd h hc
theorem push_F {qs : List Sl} {x : Sl} (h : HpF qs) (hx : sizS x) (hn : atS qs x.i < 0) (hl : qs.length < 16) : HpF (pushL qs x) := by
  have hp := push_perm qs x
  refine ⟨by rw [pushL_length]; omega, fun s hs => ?_, ?_, push_keeps h.2.2.2 x⟩
  · rcases List.mem_append.1 (hp.mem_iff.1 hs) with h1 | h1
    · exact h.2.1 s h1
    · rw [List.mem_singleton.1 h1]
      exact hx
  · refine (hp.map (·.i)).nodup_iff.2 ?_
    rw [List.map_append, List.nodup_append]
    refine ⟨h.2.2.1, by simp, fun a ha b hb => ?_⟩
    simp only [List.map_cons, List.map_nil, List.mem_singleton] at hb
    subst hb
    intro e
    obtain ⟨s, hs, rfl⟩ := List.mem_map.1 ha
    obtain ⟨j, hj, rfl⟩ := List.getElem_of_mem hs
    have := first_at h.2.2.1 hj
    rw [getElem!_pos qs j hj, e] at this
    omega
theorem slotB_siz {x : Sl} (h : slotB x = true) : sizS x := by
  unfold slotB at h
  simp only [Bool.and_eq_true] at h
  exact ⟨by first | exact h.2 | exact h.1, by first | exact h.1 | exact h.2⟩
theorem pus_F (qs : List Sl) (x : Sl) : HpF (pusL qs x) := by
  unfold pusL
  split
  · rename_i h
    have hf := codeS_F.1 h
    split
    · exact hpF_nil
    · rename_i h1
      split
      · exact hf
      · rename_i h2
        split
        · exact hf
        · rename_i h3
          exact push_F hf (slotB_siz (by simpa using h1)) (by omega) (by have := hf.1; omega)
  · exact hpF_nil
theorem sor_F {qs : List Sl} (h : HpF qs) : (sorL qs).length = qs.length ∧ (sorL qs).Pairwise leS ∧ (sorL qs).Perm qs := by
  have hc := codeS_F.2 h
  rw [sor_ok hc]
  exact ⟨sortL_length _ _ rfl, (sort_facts _ qs rfl).2 h.2.2.2, (sort_facts _ qs rfl).1⟩
theorem unt_F {qs : List Sl} (h : HpF qs) (key : Int) : (untI qs key).length + (untL qs key).length = qs.length ∧ ∀ s ∈ sorL qs, (s.i ∈ untI qs key ↔ s.k ≤ key) := by
  have hc := codeS_F.2 h
  obtain ⟨e1, e2⟩ := unt_ok (key := key) hc
  obtain ⟨f1, f2⟩ := until_facts key _ qs rfl
  have f2 := f2 h.2.2.2
  rw [e1, e2, sor_ok hc]
  refine ⟨f1, fun s hs => ?_⟩
  rw [f2]
  constructor
  · intro hm
    obtain ⟨t, ht, hti⟩ := List.mem_map.1 hm
    obtain ⟨ht1, ht2⟩ := List.mem_filter.1 ht
    have hnd := ((sort_facts _ qs rfl).1.map (·.i)).nodup_iff.2 h.2.2.1
    have : t = s := by
      obtain ⟨a, ha, rfl⟩ := List.getElem_of_mem ht1
      obtain ⟨b, hb, rfl⟩ := List.getElem_of_mem hs
      have q1 := first_at hnd ha
      have q2 := first_at hnd hb
      rw [getElem!_pos _ a ha] at q1
      rw [getElem!_pos _ b hb] at q2
      have : a = b := by
        have : (a : Int) = b := by rw [← q1, ← q2, hti]
        omega
      subst this
      rfl
    rw [← this]
    simpa using ht2
  · intro hk
    exact List.mem_map.2 ⟨s, List.mem_filter.2 ⟨hs, by simpa using hk⟩, rfl⟩
theorem pop_F {qs : List Sl} (h : popC qs = 0) (hf : HpF qs) : 0 < (sorL qs).length ∧ popX qs = (sorL qs)[0]! := by
  have hc := codeS_F.2 hf
  unfold popC at h
  rw [if_pos hc] at h
  by_cases h0 : qs.length = 0
  · rw [if_pos h0] at h
    cases h
  · rw [(sor_F hf).1]
    refine ⟨by omega, ?_⟩
    unfold popX
    rw [if_pos ⟨hc, by omega⟩, sor_ok hc, sortL_cons (by omega)]
    rfl
theorem sorted_at {ss : List Sl} (h : ss.Pairwise leS) {i : Nat} (h0 : 0 < i) (hi : i < ss.length) : leS ss[i - 1]! ss[i]! := by
  rw [getElem!_pos ss i hi, getElem!_pos ss (i - 1) (by omega)]
  exact List.pairwise_iff_getElem.1 h (i - 1) i (by omega) hi (by omega)
end Go.Proofs.Yteaapglkomlnhaa
