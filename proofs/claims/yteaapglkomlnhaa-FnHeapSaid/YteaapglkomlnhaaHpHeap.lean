/- Heaps, plain: what rises or sinks keeps the order; a heap's first is the least; the sorted list. No condition. -/
import Derived.Test.YteaapglkomlnhaaHpMath
namespace Go.Proofs.Yteaapglkomlnhaa

/-- One comes not behind another. -/
def leS (a b : Sl) : Prop := ltS b a = false
theorem leS_iff {a b : Sl} : leS a b ↔ a.k < b.k ∨ a.k = b.k ∧ a.i ≤ b.i := by
  unfold leS
  rw [ltS_not]
  omega
theorem leS.trans {a b c : Sl} (h : leS a b) (g : leS b c) : leS a c := by
  rw [leS_iff] at *
  omega
theorem leS_refl (a : Sl) : leS a a := by
  rw [leS_iff]
  omega
theorem ltS_le {a b : Sl} (h : ltS a b = true) : leS a b := by
  rw [ltS_iff] at h
  rw [leS_iff]
  omega
theorem sw_at {qs : List Sl} {a b : Nat} (ha : a < qs.length) (hb : b < qs.length) : (swS qs a b)[b]! = qs[a]! ∧ (a ≠ b → (swS qs a b)[a]! = qs[b]!) ∧ ∀ t, t ≠ a → t ≠ b → (swS qs a b)[t]! = qs[t]! := by
  refine ⟨?_, fun h => ?_, fun t h1 h2 => ?_⟩
  · rw [swS_get _ _ _ _ ha hb, if_pos rfl]
  · rw [swS_get _ _ _ _ ha hb, if_neg h, if_pos rfl]
  · rw [swS_get _ _ _ _ ha hb, if_neg h2, if_neg h1]
def HpO (qs : List Sl) : Prop := ∀ j, 0 < j → j < qs.length → leS qs[(j - 1) / 2]! qs[j]!
def UpI (qs : List Sl) (i : Nat) : Prop := (∀ j, 0 < j → j < qs.length → j ≠ i → leS qs[(j - 1) / 2]! qs[j]!) ∧ ∀ j, 0 < j → j < qs.length → (j - 1) / 2 = i → 0 < i → leS qs[(i - 1) / 2]! qs[j]!
def DnI (qs : List Sl) (i : Nat) : Prop := (∀ j, 0 < j → j < qs.length → (j - 1) / 2 ≠ i → leS qs[(j - 1) / 2]! qs[j]!) ∧ ∀ j, 0 < j → j < qs.length → (j - 1) / 2 = i → 0 < i → leS qs[(i - 1) / 2]! qs[j]!
theorem up_keeps (i : Nat) : ∀ qs : List Sl, i < qs.length → UpI qs i → HpO (upL qs i).1 := by
  induction i using Nat.strongRecOn with
  | ind i ih =>
    intro qs hi ⟨H1, H2⟩
    by_cases h : 0 < i ∧ ltS qs[i]! qs[(i - 1) / 2]! = true
    · rw [upL_go h.1 h.2]
      obtain ⟨h0, hlt⟩ := h
      obtain ⟨p, hp⟩ : ∃ p, (i - 1) / 2 = p := ⟨_, rfl⟩
      rw [hp] at hlt ⊢
      have hpi : p < i := by omega
      obtain ⟨g1, g2, g3⟩ := sw_at hi (show p < qs.length by omega)
      have g2 := g2 (by omega)
      have hle := ltS_le hlt
      refine ih p hpi _ (by rw [swS_length]; omega) ⟨fun j j0 hj hne => ?_, fun j j0 hj hpj hp0 => ?_⟩
      · rw [swS_length] at hj
        by_cases hji : j = i
        · rw [hji, hp, g1, g2]
          exact hle
        · rw [g3 j hji hne]
          have hj1 := H1 j j0 hj hji
          by_cases hq : (j - 1) / 2 = p
          · rw [hq] at hj1 ⊢
            rw [g1]
            exact hle.trans hj1
          · by_cases hq2 : (j - 1) / 2 = i
            · rw [hq2, g2]
              have := H2 j j0 hj hq2 h0
              rwa [hp] at this
            · rw [g3 _ hq2 hq]
              exact hj1
      · rw [swS_length] at hj
        have hpp := H1 p hp0 (by omega) (by omega)
        rw [g3 ((p - 1) / 2) (by omega) (by omega)]
        by_cases hji : j = i
        · rw [hji, g2]
          exact hpp
        · rw [g3 j hji (by omega)]
          have hj1 := H1 j j0 hj hji
          rw [hpj] at hj1
          exact hpp.trans hj1
    · have hs : i = 0 ∨ ltS qs[i]! qs[(i - 1) / 2]! = false := by
        by_cases h0 : i = 0
        · exact Or.inl h0
        · exact Or.inr (by simpa using fun hx => h ⟨by omega, hx⟩)
      rw [upL_stop hs]
      intro j j0 hj
      by_cases hji : j = i
      · subst hji
        rcases hs with h | h
        · omega
        · exact h
      · exact H1 j j0 hj hji
theorem fam_least {qs : List Sl} {i f : Nat} (hf : famL qs i = f) : leS qs[f]! qs[i]! ∧ (∀ j, 0 < j → j < qs.length → (j - 1) / 2 = i → leS qs[f]! qs[j]!) ∧ (f ≠ i → (f - 1) / 2 = i ∧ 0 < f) := by
  have key : ∀ j, 0 < j → (j - 1) / 2 = i → j = 2 * i + 1 ∨ j = 2 * i + 2 := fun j _ _ => by omega
  unfold famL at hf
  by_cases g1 : 2 * i + 1 < qs.length ∧ ltS qs[2 * i + 1]! qs[i]! = true
  · simp only [if_pos g1] at hf
    by_cases g2 : 2 * i + 2 < qs.length ∧ ltS qs[2 * i + 2]! qs[2 * i + 1]! = true
    · rw [if_pos g2] at hf
      subst hf
      refine ⟨(ltS_le g2.2).trans (ltS_le g1.2), fun j j0 hj hp => ?_, fun _ => by omega⟩
      rcases key j j0 hp with rfl | rfl
      · exact ltS_le g2.2
      · exact leS_refl _
    · rw [if_neg g2] at hf
      subst hf
      refine ⟨ltS_le g1.2, fun j j0 hj hp => ?_, fun _ => by omega⟩
      rcases key j j0 hp with rfl | rfl
      · exact leS_refl _
      · exact by simpa [leS] using fun hx => g2 ⟨hj, hx⟩
  · simp only [if_neg g1] at hf
    by_cases g2 : 2 * i + 2 < qs.length ∧ ltS qs[2 * i + 2]! qs[i]! = true
    · rw [if_pos g2] at hf
      subst hf
      refine ⟨ltS_le g2.2, fun j j0 hj hp => ?_, fun _ => by omega⟩
      rcases key j j0 hp with rfl | rfl
      · have : leS qs[i]! qs[2 * i + 1]! := by simpa [leS] using fun hx => g1 ⟨hj, hx⟩
        exact (ltS_le g2.2).trans this
      · exact leS_refl _
    · rw [if_neg g2] at hf
      subst hf
      refine ⟨leS_refl _, fun j j0 hj hp => ?_, fun h => absurd rfl h⟩
      rcases key j j0 hp with rfl | rfl
      · exact by simpa [leS] using fun hx => g1 ⟨hj, hx⟩
      · exact by simpa [leS] using fun hx => g2 ⟨hj, hx⟩
theorem down_keeps (n : Nat) : ∀ (qs : List Sl) (i : Nat), qs.length - i = n → DnI qs i → HpO (downL qs i) := by
  induction n using Nat.strongRecOn with
  | ind n ih =>
    intro qs i hn ⟨H1, H2⟩
    obtain ⟨f, hf⟩ : ∃ f, famL qs i = f := ⟨_, rfl⟩
    obtain ⟨f1, f2, f3⟩ := fam_least hf
    have hfi := famL_in qs i
    rw [hf] at hfi
    by_cases h : i = f
    · rw [downL_stop (by omega)]
      intro j j0 hj
      by_cases hp : (j - 1) / 2 = i
      · rw [hp]
        have := f2 j j0 hj hp
        rwa [← h] at this
      · exact H1 j j0 hj hp
    · rw [downL_go hf h]
      obtain ⟨hif, hfl⟩ : i < f ∧ f < qs.length := by omega
      obtain ⟨f3, f0⟩ := f3 (by omega)
      obtain ⟨g1, g2, g3⟩ := sw_at (show i < qs.length by omega) hfl
      have g2 := g2 h
      refine ih _ (by rw [swS_length]; omega) _ _ rfl ⟨fun j j0 hj hne => ?_, fun j j0 hj hpj hp0 => ?_⟩
      · rw [swS_length] at hj
        by_cases hjf : j = f
        · rw [hjf, f3, g1, g2]
          exact f1
        · by_cases hji : j = i
          · subst hji
            rw [g2, g3 ((j - 1) / 2) (by omega) (by omega)]
            exact H2 f f0 hfl f3 j0
          · rw [g3 j hji hjf]
            by_cases hq : (j - 1) / 2 = i
            · rw [hq, g2]
              exact f2 j j0 hj hq
            · rw [g3 _ hq hne]
              exact H1 j j0 hj hq
      · rw [swS_length] at hj
        rw [f3, g2, g3 j (by omega) (by omega)]
        have := H1 j j0 hj (by omega)
        rwa [hpj] at this
theorem fam_still {qs : List Sl} (h : HpO qs) (i : Nat) : famL qs i = i := by
  obtain ⟨f, hf⟩ : ∃ f, famL qs i = f := ⟨_, rfl⟩
  have hfi := famL_in qs i
  unfold famL at hf hfi
  have a1 : ¬ (2 * i + 1 < qs.length ∧ ltS qs[2 * i + 1]! qs[i]! = true) := by
    rintro ⟨h1, h2⟩
    have := h (2 * i + 1) (by omega) h1
    rw [show (2 * i + 1 - 1) / 2 = i by omega] at this
    exact Bool.noConfusion (this.symm.trans h2)
  have a2 : ¬ (2 * i + 2 < qs.length ∧ ltS qs[2 * i + 2]! qs[i]! = true) := by
    rintro ⟨h1, h2⟩
    have := h (2 * i + 2) (by omega) h1
    rw [show (2 * i + 2 - 1) / 2 = i by omega] at this
    exact Bool.noConfusion (this.symm.trans h2)
  unfold famL
  simp only [if_neg a1, if_neg a2]
theorem put_at {qs : List Sl} {i m : Nat} {y : Sl} (hm : qs.length = m + 1) (hi : i < m) : ((qs.take m).set i y).length = m ∧ ((qs.take m).set i y)[i]! = y ∧ ∀ t, t < m → t ≠ i → ((qs.take m).set i y)[t]! = qs[t]! := by
  have hl : ((qs.take m).set i y).length = m := by simp; omega
  refine ⟨hl, ?_, fun t ht hne => ?_⟩
  · rw [getElem!_pos _ i (by omega)]
    simp
  · rw [getElem!_pos _ t (by omega), getElem!_pos qs t (by omega), List.getElem_set_ne (by omega), List.getElem_take]
theorem take_keeps {qs : List Sl} {i : Nat} (h : HpO qs) (hi : i < qs.length) : HpO (takeL qs i) := by
  obtain ⟨m, hm⟩ : ∃ m, qs.length = m + 1 := ⟨qs.length - 1, by omega⟩
  unfold takeL
  rw [show qs.length - 1 = m by omega]
  split
  · intro j j0 hj
    have hjm : j < m := by simp at hj; omega
    rw [getElem!_pos (qs.take m) j hj, getElem!_pos (qs.take m) ((j - 1) / 2) (by simp at hj ⊢; omega), List.getElem_take, List.getElem_take, ← getElem!_pos qs j (by omega), ← getElem!_pos qs ((j - 1) / 2) (by omega)]
    exact h j j0 (by omega)
  · rename_i hne
    obtain ⟨rs, hrs⟩ : ∃ rs, (qs.take m).set i qs[m]! = rs := ⟨_, rfl⟩
    obtain ⟨r1, r2, r3⟩ := put_at (y := qs[m]!) hm (show i < m by omega)
    rw [hrs] at r1 r2 r3 ⊢
    have sec : ∀ j, 0 < j → j < rs.length → (j - 1) / 2 = i → 0 < i → leS rs[(i - 1) / 2]! rs[j]! := by
      intro j j0 hj hp h0
      rw [r3 ((i - 1) / 2) (by omega) (by omega), r3 j (by omega) (by omega)]
      have := h j j0 (by omega)
      rw [hp] at this
      exact (h i h0 hi).trans this
    have oth : ∀ j, 0 < j → j < rs.length → j ≠ i → (j - 1) / 2 ≠ i → leS rs[(j - 1) / 2]! rs[j]! := by
      intro j j0 hj h1 h2
      rw [r3 ((j - 1) / 2) (by omega) h2, r3 j (by omega) h1]
      exact h j j0 (by omega)
    by_cases g : 0 < i ∧ ltS rs[i]! rs[(i - 1) / 2]! = true
    · have hu : HpO (upL rs i).1 := by
        refine up_keeps i rs (by omega) ⟨fun j j0 hj h1 => ?_, sec⟩
        by_cases h2 : (j - 1) / 2 = i
        · rw [h2]
          exact (ltS_le g.2).trans (sec j j0 hj h2 g.1)
        · exact oth j j0 hj h1 h2
      rw [downL_stop (fam_still hu _)]
      exact hu
    · have hs : i = 0 ∨ ltS rs[i]! rs[(i - 1) / 2]! = false := by
        by_cases h0 : i = 0
        · exact Or.inl h0
        · exact Or.inr (by simpa using fun hx => g ⟨by omega, hx⟩)
      rw [upL_stop hs]
      refine down_keeps _ rs i rfl ⟨fun j j0 hj h2 => ?_, sec⟩
      by_cases h1 : j = i
      · subst h1
        rcases hs with hs | hs
        · omega
        · exact hs
      · exact oth j j0 hj h1 h2
theorem push_keeps {qs : List Sl} (h : HpO qs) (s : Sl) : HpO (pushL qs s) := by
  have hg : ∀ t, t < qs.length → (qs ++ [s])[t]! = qs[t]! := fun t ht => by
    rw [getElem!_pos _ t (by simp; omega), getElem!_pos qs t ht, List.getElem_append_left ht]
  unfold pushL
  refine up_keeps _ _ (by simp) ⟨fun j j0 hj hne => ?_, fun j j0 hj hp h0 => ?_⟩
  · have hj2 : j < qs.length := by simp at hj; omega
    rw [hg j hj2, hg _ (by omega)]
    exact h j j0 hj2
  · simp at hj
    omega
theorem sw_perm {qs : List Sl} {a b : Nat} (ha : a < qs.length) (hb : b < qs.length) : (swS qs a b).Perm qs := by
  unfold swS
  rw [getElem!_pos qs a ha, getElem!_pos qs b hb]
  exact List.set_set_perm ha hb
theorem up_perm (i : Nat) : ∀ qs : List Sl, i < qs.length → (upL qs i).1.Perm qs := by
  induction i using Nat.strongRecOn with
  | ind i ih =>
    intro qs hi
    by_cases h : 0 < i ∧ ltS qs[i]! qs[(i - 1) / 2]! = true
    · rw [upL_go h.1 h.2]
      exact (ih ((i - 1) / 2) (by omega) _ (by rw [swS_length]; omega)).trans (sw_perm hi (by omega))
    · rw [upL, dif_neg h]
theorem down_perm (n : Nat) : ∀ (qs : List Sl) (i : Nat), qs.length - i = n → (downL qs i).Perm qs := by
  induction n using Nat.strongRecOn with
  | ind n ih =>
    intro qs i hn
    rcases famL_in qs i with h | ⟨h1, h2⟩
    · rw [downL_stop h]
    · rw [downL_go rfl (by omega)]
      exact (ih _ (by rw [swS_length]; omega) _ _ rfl).trans (sw_perm (by omega) h2)
theorem take_perm {qs : List Sl} {i : Nat} (hi : i < qs.length) : (qs[i]! :: takeL qs i).Perm qs := by
  obtain ⟨m, hm⟩ : ∃ m, qs.length = m + 1 := ⟨qs.length - 1, by omega⟩
  have hlast : qs = qs.take m ++ [qs[m]!] := by
    rw [getElem!_pos qs m (by omega), List.take_append_getElem, List.take_of_length_le (by omega)]
  unfold takeL
  rw [show qs.length - 1 = m by omega]
  split
  · rename_i h
    subst h
    exact (List.perm_append_singleton _ _).symm.trans (List.Perm.of_eq hlast.symm)
  · rename_i hne
    obtain ⟨rs, hrs⟩ : ∃ rs, (qs.take m).set i qs[m]! = rs := ⟨_, rfl⟩
    obtain ⟨r1, r2, r3⟩ := put_at (y := qs[m]!) hm (show i < m by omega)
    rw [hrs] at r1 r2 r3 ⊢
    have hsw : swS qs i m = rs ++ [qs[i]!] := by
      obtain ⟨g1, g2, g3⟩ := sw_at hi (show m < qs.length by omega)
      refine List.ext_getElem (by rw [swS_length]; simp; omega) fun t h1 h2 => ?_
      rw [← getElem!_pos (swS qs i m) t h1]
      rw [swS_length] at h1
      by_cases ht : t = m
      · subst ht
        rw [g1, List.getElem_append_right (by omega)]
        simp
      · rw [List.getElem_append_left (by omega), ← getElem!_pos rs t (by omega)]
        by_cases h3 : t = i
        · subst h3
          rw [g2 ht, r2]
        · rw [g3 t h3 ht, r3 t (by omega) h3]
    refine (List.Perm.cons _ ((down_perm _ _ _ rfl).trans (up_perm i rs (by omega)))).trans ?_
    refine (List.perm_append_singleton _ _).symm.trans ?_
    rw [← hsw]
    exact sw_perm hi (by omega)
theorem push_perm (qs : List Sl) (s : Sl) : (pushL qs s).Perm (qs ++ [s]) := up_perm _ _ (by simp)
theorem root_least {qs : List Sl} (h : HpO qs) (j : Nat) : j < qs.length → leS qs[0]! qs[j]! := by
  induction j using Nat.strongRecOn with
  | ind j ih =>
    intro hj
    by_cases h0 : j = 0
    · rw [h0]
      exact leS_refl _
    · exact (ih ((j - 1) / 2) (by omega) (by omega)).trans (h j (by omega) hj)
theorem sort_facts (n : Nat) : ∀ qs : List Sl, qs.length = n → (sortL qs).Perm qs ∧ (HpO qs → (sortL qs).Pairwise leS) := by
  induction n with
  | zero =>
    intro qs h
    rw [List.length_eq_zero_iff.1 h, sortL_nil]
    exact ⟨List.Perm.refl _, fun _ => List.Pairwise.nil⟩
  | succ n ih =>
    intro qs h
    have hl : (takeL qs 0).length = n := by rw [takeL_length]; omega
    obtain ⟨i1, i2⟩ := ih _ hl
    have hp := take_perm (qs := qs) (i := 0) (by omega)
    rw [sortL_cons (by omega)]
    refine ⟨(List.Perm.cons _ i1).trans hp, fun ho => List.pairwise_cons.2 ⟨fun x hx => ?_, i2 (take_keeps ho (by omega))⟩⟩
    have hx2 : x ∈ qs := hp.mem_iff.1 (List.mem_cons_of_mem _ (i1.mem_iff.1 hx))
    obtain ⟨j, hj, rfl⟩ := List.getElem_of_mem hx2
    rw [← getElem!_pos qs j hj]
    exact root_least ho j hj
theorem until_facts (key : Int) (n : Nat) : ∀ qs : List Sl, qs.length = n → (untilL qs key).2.length + (untilL qs key).1.length = n ∧ (HpO qs → (untilL qs key).2 = ((sortL qs).filter (fun s => decide (s.k ≤ key))).map (·.i)) := by
  induction n with
  | zero =>
    intro qs h
    rw [List.length_eq_zero_iff.1 h, untilL_nil, sortL_nil]
    exact ⟨rfl, fun _ => rfl⟩
  | succ n ih =>
    intro qs h
    have hl : (takeL qs 0).length = n := by rw [takeL_length]; omega
    obtain ⟨i1, i2⟩ := ih _ hl
    by_cases hk : qs[0]!.k ≤ key
    · rw [untilL_go (by omega) hk]
      refine ⟨by simp only [List.length_cons]; omega, fun ho => ?_⟩
      rw [sortL_cons (by omega), List.filter_cons_of_pos (by simpa using hk), List.map_cons, i2 (take_keeps ho (by omega))]
    · rw [untilL_stop (by omega) hk]
      refine ⟨by simpa using h, fun ho => ?_⟩
      have : (sortL qs).filter (fun s => decide (s.k ≤ key)) = [] := by
        rw [List.filter_eq_nil_iff]
        intro x hx
        have hx2 : x ∈ qs := (sort_facts _ qs rfl).1.mem_iff.1 hx
        obtain ⟨j, hj, rfl⟩ := List.getElem_of_mem hx2
        have := root_least ho j hj
        rw [getElem!_pos qs j hj, leS_iff] at this
        simp only [decide_eq_true_eq]
        omega
      rw [this]
      rfl
end Go.Proofs.Yteaapglkomlnhaa
