/- Tries, plain: what lies below a node, how many nodes there are, when it is valid for the model. No condition. -/
import Derived.Test.YtcaabnnkjnleeaaDoorJoin
import Derived.Test.YtcaabnnkjnleeaaDoorHostSpec
namespace Go.Proofs.YtcaabnnkjnleeaaDoor
open Go.WideShapes

inductive Tr where
  | mk (l : ByteArray) (ids : List Int) (ks : List Tr)
instance : Inhabited Tr := ⟨.mk ⟨#[]⟩ [] []⟩
def Tr.l : Tr → ByteArray
  | .mk l _ _ => l
def Tr.ids : Tr → List Int
  | .mk _ i _ => i
def Tr.ks : Tr → List Tr
  | .mk _ _ k => k
/-- All numbers, each node's own before those of its kids; n is how deep the reading goes. -/
def allT : Nat → Tr → List Int
  | 0, _ => []
  | n + 1, t => t.ids ++ t.ks.flatMap (allT n)
/-- How many nodes there are, itself too. -/
def cntT : Nat → Tr → Nat
  | 0, _ => 0
  | n + 1, t => 1 + (t.ks.map (cntT n)).sum
/-- .. counted no further than m. -/
def widT : Nat → Tr → Int → Int
  | 0, _, _ => 0
  | n + 1, t, m => t.ks.foldl (fun c k => if c ≤ m then c + widT n k (m - c) else c) 1
theorem wid_fold (n : Nat) (ks : List Tr) (ih : ∀ k ∈ ks, ∀ m : Int, ((cntT n k : Int) ≤ m → widT n k m = cntT n k) ∧ (m < cntT n k → m < widT n k m)) :
    ∀ (c m : Int), (c + ((ks.map (cntT n)).sum : Nat) ≤ m → ks.foldl (fun c k => if c ≤ m then c + widT n k (m - c) else c) c = c + ((ks.map (cntT n)).sum : Nat)) ∧ (m < c + ((ks.map (cntT n)).sum : Nat) → m < ks.foldl (fun c k => if c ≤ m then c + widT n k (m - c) else c) c) := by
  induction ks with
  | nil => intro c m; simp
  | cons k ks ih2 =>
    intro c m
    have hk := ih k (by simp)
    have hr := ih2 (fun x hx => ih x (by simp [hx]))
    simp only [List.foldl_cons, List.map_cons, List.sum_cons, Int.natCast_add]
    by_cases hc : c ≤ m
    · rw [if_pos hc]
      by_cases h1 : (cntT n k : Int) ≤ m - c
      · rw [(hk (m - c)).1 h1]
        have := hr (c + cntT n k) m
        rw [← Int.add_assoc]
        exact this
      · have h2 := (hk (m - c)).2 (by omega)
        have h3 := (hr (c + widT n k (m - c)) m).2 (by omega)
        exact ⟨fun h => by omega, fun _ => h3⟩
    · rw [if_neg hc]
      have h3 := (hr c m).2 (by omega)
      exact ⟨fun h => by omega, fun _ => h3⟩
theorem wid_cnt : ∀ (n : Nat) (t : Tr) (m : Int), ((cntT n t : Int) ≤ m → widT n t m = cntT n t) ∧ (m < cntT n t → m < widT n t m)
  | 0, t, m => by simp [cntT, widT]
  | n + 1, t, m => by
    have := wid_fold n t.ks (fun k _ => wid_cnt n k) 1 m
    simp only [cntT, widT, Int.natCast_add]
    exact this
/-- Rising numbers. -/
def incB : List Int → Bool
  | a :: b :: r => decide (a < b) && incB (b :: r)
  | _ => true
/-- A label that stands alone. -/
def lbB (l : ByteArray) : Bool := hostB l && !l.data.toList.contains 46
/-- Texts that rise. -/
def incS : List ByteArray → Bool
  | a :: b :: r => decide (a.toList < b.toList) && incS (b :: r)
  | _ => true
def fullB (t : Tr) : Bool := !t.ids.isEmpty || !t.ks.isEmpty
/-- A node below the root, d deep at most. -/
def okT : Nat → Tr → Int → Bool
  | 0, _, _ => false
  | n + 1, t, d => decide (0 ≤ d) && (incB t.ids && (t.ids.all (fun i => inRange i 1 1000000000000) && (t.ks.all (fun k => lbB k.l && fullB k) && (incS (t.ks.map Tr.l) && t.ks.all fun k => okT n k (d - 1)))))
/-- The program's look at a node d below the root. -/
def okI : Nat → Tr → Int → Bool
  | 0, _, _ => false
  | n + 1, t, d => decide (d ≤ 6) && ((!decide (0 < d) || fullB t) && (decide (t.ks.length ≤ 16) && (t.ks.all (fun k => lbB k.l) && (incS (t.ks.map Tr.l) && (incB t.ids && t.ks.all fun k => okI n k (d + 1))))))
theorem sum_le {f g : Tr → Nat} (ks : List Tr) (h : ∀ k ∈ ks, f k ≤ g k) : (ks.map f).sum ≤ (ks.map g).sum := by
  induction ks with
  | nil => simp
  | cons k ks ih =>
    simp only [List.map_cons, List.sum_cons]
    have := h k (by simp)
    have := ih (fun x hx => h x (by simp [hx]))
    omega
theorem sum_mul (f : Tr → Nat) (d : Nat) (ks : List Tr) : (ks.map fun k => d * f k).sum = d * (ks.map f).sum := by
  induction ks with
  | nil => simp
  | cons k ks ih =>
    simp only [List.map_cons, List.sum_cons]
    rw [ih, Nat.mul_add]
theorem all_len (n : Nat) (ks : List Tr) : (ks.flatMap (allT n)).length = (ks.map fun k => (allT n k).length).sum := by
  induction ks with
  | nil => rfl
  | cons k ks ih => simp only [List.flatMap_cons, List.length_append, List.map_cons, List.sum_cons, ih]
theorem full_some {t : Tr} (h : fullB t = true) (h0 : t.ids = []) : t.ks ≠ [] := by
  unfold fullB at h
  rw [h0] at h
  intro e
  rw [e] at h
  simp at h
/-- A node that leads to something leads to a number. -/
theorem ok_some : ∀ (n : Nat) (t : Tr) (d : Int), okT n t d = true → fullB t = true → 1 ≤ (allT n t).length
  | 0, _, _, h, _ => by simp [okT] at h
  | n + 1, t, d, h, hf => by
    simp only [okT, Bool.and_eq_true, List.all_eq_true] at h
    obtain ⟨_, _, _, h4, _, h6⟩ := h
    simp only [allT, List.length_append]
    cases hi : t.ids with
    | cons a l => simp; omega
    | nil =>
      have hk := full_some hf hi
      cases hks : t.ks with
      | nil => exact absurd hks hk
      | cons k ks =>
        have hm : k ∈ t.ks := by rw [hks]; simp
        have := ok_some n k (d - 1) (h6 k hm) (h4 k hm).2
        simp only [List.flatMap_cons, List.length_append, List.length_nil]
        omega
theorem ok_count : ∀ (n : Nat) (t : Tr) (d : Nat), okT n t d = true → cntT n t ≤ 1 + d * (allT n t).length
  | 0, _, _, h => by simp [okT] at h
  | n + 1, t, d, h => by
    have h0 := h
    simp only [okT, Bool.and_eq_true, List.all_eq_true] at h
    obtain ⟨_, _, _, h4, _, h6⟩ := h
    simp only [cntT, allT, List.length_append, all_len]
    have hs : (t.ks.map (cntT n)).sum ≤ (t.ks.map fun k => d * (allT n k).length).sum := by
      refine sum_le _ fun k hk => ?_
      have hok := h6 k hk
      have h1 := ok_some n k _ hok (h4 k hk).2
      cases d with
      | zero =>
        have : okT n k (-1) = false := by
          cases n with
          | zero => rfl
          | succ n => simp [okT]
        rw [show ((0 : Nat) : Int) - 1 = -1 by omega] at hok
        rw [this] at hok
        cases hok
      | succ d =>
        rw [show ((d + 1 : Nat) : Int) - 1 = (d : Int) by omega] at hok
        have := ok_count n k d hok
        rw [Nat.add_mul]
        omega
    rw [sum_mul] at hs
    rw [Nat.mul_add]
    omega
theorem sum_one (ks : List Tr) : (ks.map fun _ => 1).sum = ks.length := by
  induction ks with
  | nil => rfl
  | cons k ks ih =>
    simp only [List.map_cons, List.sum_cons, List.length_cons]
    omega
theorem kids_len (n : Nat) (t : Tr) (d : Int) (h : okT (n + 1) t d = true) : t.ks.length ≤ (allT (n + 1) t).length := by
  simp only [okT, Bool.and_eq_true, List.all_eq_true] at h
  obtain ⟨_, _, _, h4, _, h6⟩ := h
  simp only [allT, List.length_append, all_len]
  have hs : (t.ks.map fun _ => 1).sum ≤ (t.ks.map fun k => (allT n k).length).sum := sum_le _ fun k hk => ok_some n k _ (h6 k hk) (h4 k hk).2
  rw [sum_one] at hs
  omega
theorem all_sub {n : Nat} {t k : Tr} (hk : k ∈ t.ks) : ∀ x ∈ allT n k, x ∈ allT (n + 1) t := fun x hx => by
  simp only [allT, List.mem_append, List.mem_flatMap]
  exact Or.inr ⟨k, hk, hx⟩
theorem len_sub {n : Nat} {t k : Tr} (hk : k ∈ t.ks) : (allT n k).length ≤ (allT (n + 1) t).length := by
  simp only [allT, List.length_append, all_len]
  have : ∀ ks : List Tr, k ∈ ks → (allT n k).length ≤ (ks.map fun k => (allT n k).length).sum := by
    intro ks
    induction ks with
    | nil => intro h; cases h
    | cons y ks ih =>
      intro h
      simp only [List.map_cons, List.sum_cons]
      rcases List.mem_cons.1 h with rfl | h
      · omega
      · have := ih h
        omega
  have := this t.ks hk
  omega
/-- The two looks are one, if there are no more than sixteen numbers, all within bounds. -/
theorem okI_of : ∀ (n : Nat) (t : Tr) (d : Int), (allT n t).length ≤ 16 → okT n t (6 - d) = true → (0 < d → fullB t = true) → okI n t d = true
  | 0, _, _, _, h, _ => by simp [okT] at h
  | n + 1, t, d, hl, h, hf => by
    have hk := kids_len n t _ h
    simp only [okT, Bool.and_eq_true, List.all_eq_true, decide_eq_true_eq] at h
    obtain ⟨h1, h2, h3, h4, h5, h6⟩ := h
    simp only [okI, Bool.and_eq_true, List.all_eq_true, decide_eq_true_eq, Bool.or_eq_true, Bool.not_eq_true', decide_eq_false_iff_not]
    refine ⟨by omega, ?_, by omega, fun k hk => (h4 k hk).1, h5, h2, fun k hk => okI_of n k (d + 1) (Nat.le_trans (len_sub hk) hl) (by rw [show 6 - (d + 1) = 6 - d - 1 by omega]; exact h6 k hk) (fun _ => (h4 k hk).2)⟩
    by_cases h : 0 < d
    · exact Or.inr (hf h)
    · exact Or.inl h
theorem okT_of : ∀ (n : Nat) (t : Tr) (d : Int), 0 ≤ d → (∀ x ∈ allT n t, inRange x 1 1000000000000 = true) → okI n t d = true → okT n t (6 - d) = true
  | 0, _, _, _, _, h => by simp [okI] at h
  | n + 1, t, d, hd, hr, h => by
    simp only [okI, Bool.and_eq_true, List.all_eq_true, decide_eq_true_eq, Bool.or_eq_true, Bool.not_eq_true', decide_eq_false_iff_not] at h
    obtain ⟨h1, h2, h3, h4, h5, h6, h7⟩ := h
    simp only [okT, Bool.and_eq_true, List.all_eq_true, decide_eq_true_eq]
    have hfull : ∀ k ∈ t.ks, fullB k = true := fun k hk => by
      have := h7 k hk
      cases n with
      | zero => simp [okI] at this
      | succ n =>
        simp only [okI, Bool.and_eq_true, decide_eq_true_eq, Bool.or_eq_true, Bool.not_eq_true', decide_eq_false_iff_not] at this
        rcases this.2.1 with h | h
        · omega
        · exact h
    exact ⟨by omega, h6, fun x hx => hr x (by simp only [allT, List.mem_append]; exact Or.inl hx), fun k hk => ⟨h4 k hk, hfull k hk⟩, h5, fun k hk => by
      have := okT_of n k (d + 1) (by omega) (fun x hx => hr x (all_sub hk x hx)) (h7 k hk)
      rwa [show 6 - (d + 1) = 6 - d - 1 by omega] at this⟩
def nodupB : List Int → Bool
  | [] => true
  | a :: l => !l.contains a && nodupB l
/-- A trie, for the model and for the program. -/
def trieB (n : Nat) (t : Tr) : Bool := t.l.toList.isEmpty && (decide (widT n t 97 ≤ 97) && (okT n t 6 && (nodupB (allT n t) && decide ((allT n t).length ≤ 16))))
theorem trie_impl (n : Nat) (t : Tr) : trieB n t = (t.l.toList.isEmpty && (okI n t 0 && (decide ((allT n t).length ≤ 16) && (nodupB (allT n t) && (allT n t).all fun x => inRange x 1 1000000000000)))) := by
  rw [Bool.eq_iff_iff]
  unfold trieB
  simp only [Bool.and_eq_true, decide_eq_true_eq, List.all_eq_true]
  constructor
  · rintro ⟨h1, h2, h3, h4, h5⟩
    refine ⟨h1, okI_of n t 0 h5 h3 (fun h => by omega), h5, h4, ?_⟩
    have : ∀ (n : Nat) (t : Tr) (d : Int), okT n t d = true → ∀ x ∈ allT n t, inRange x 1 1000000000000 = true := by
      intro n
      induction n with
      | zero => intro t d h; simp [okT] at h
      | succ n ih =>
        intro t d h x hx
        simp only [okT, Bool.and_eq_true, List.all_eq_true] at h
        obtain ⟨_, _, g3, _, _, g6⟩ := h
        simp only [allT, List.mem_append, List.mem_flatMap] at hx
        rcases hx with hx | ⟨k, hk, hx⟩
        · exact g3 x hx
        · exact ih k _ (g6 k hk) x hx
    exact this n t 6 h3
  · rintro ⟨h1, h2, h3, h4, h5⟩
    have ho := okT_of n t 0 (Int.le_refl _) h5 h2
    have hc := ok_count n t 6 ho
    refine ⟨h1, ?_, ho, h4, h3⟩
    have hle : (cntT n t : Int) ≤ 97 := by omega
    rw [(wid_cnt n t 97).1 hle]
    exact hle
end Go.Proofs.YtcaabnnkjnleeaaDoor
