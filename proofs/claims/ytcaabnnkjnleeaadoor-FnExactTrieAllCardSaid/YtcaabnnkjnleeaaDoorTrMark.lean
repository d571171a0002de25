/- The laws' marks on a trie: they turn labels and numbers, and nothing else, in the trie's own blocks. No condition of its own. -/
import Derived.Test.YtcaabnnkjnleeaaDoorNums
import Derived.Test.YtcaabnnkjnleeaaDoorTrLaw
import Derived.Test.YtcaabnnkjnleeaaDoorText
namespace Go.Proofs.YtcaabnnkjnleeaaDoor
open Go.ChangeShapes Go.WideShapes Go.ChangeAt Go.WideMaps Go.WideElems Go.RowKit

set_option maxRecDepth 100000 in
theorem markText2_any (k : Nat) (w : World) (h0 : 0 < k) (h1 : k ≤ 4000000) : Calls Tryd.prog 61 #[.int .i64 k] w fun e w' => e = .returned (.string (mT k)) ∧ Below w.heap.size w w' := by
  go_enter Tryd.func61, Tryd.ntmps61
  go_wp2
  go_loopw [0, 3] (fun v out wr => MarkRel w k v out wr) (fun v _ _ => (intOf v).toNat)
  case atStart => exact ⟨k, [], rfl, rfl, rfl, by simp, Below.refl _ _⟩
  case round =>
    obtain ⟨k', acc, rfl, rfl, hmk, hle, hb⟩ := hrel
    have HM := Lib.hid hmk
    have HB := Lib.hid hb
    have hacc : (⟨acc.toArray⟩ : ByteArray).size ≤ 4000000 := by show acc.toArray.size ≤ _; rw [List.size_toArray]; omega
    clear hmk hb
    by_cases hk : 0 < k'
    · obtain ⟨c, hc⟩ : ∃ c : UInt8, c = UInt8.ofNat (48 + k' % 10) := ⟨_, rfl⟩
      have hcv := digit_byte k' c (by rw [hc]; simp; omega)
      have HC := Lib.hid hc
      clear hc
      have hm1 : (0 : Int) ≤ (k' : Int) % 10 := by omega
      have hm2 : (k' : Int) % 10 < 10 := by omega
      go_wp2
      go_roundw
      case rel => exact ⟨k' / 10, UInt8.ofNat (48 + k' % 10) :: acc, by go_num, by refine congrArg Value.string (bytes_inj ?_); simp [HC.out], by rw [← mk_step hk]; exact HM.out, by simp; omega, HB.out.alloc HB.out.size _⟩
      case measure => simp [intOf]; omega
    · have hk2 : k' ≤ 0 := by omega
      have HE : Hid (acc = mk k []) := by
        show _ = _
        rw [← HM.out, show k' = 0 by omega, mk_zero]
      go_wp2
      go_ret
      refine ⟨?_, HB.out⟩
      refine congrArg (fun s => Ending.returned (Value.string s)) (bytes_inj ?_)
      rw [HE.out]
      simp [mT, mL]
/-- One value in the place of another of its kind, where the kind is a number's or a text's. -/
def Kd (v v' : Value) : Prop := v = v' ∨ (∃ a b, v = .int .i64 a ∧ v' = .int .i64 b) ∨ ∃ a b, v = .string a ∧ v' = .string b
theorem Kd.trans {a b c : Value} (h : Kd a b) (k : Kd b c) : Kd a c := by
  rcases h with rfl | ⟨x, y, rfl, rfl⟩ | ⟨x, y, rfl, rfl⟩
  · exact k
  · rcases k with rfl | ⟨x2, y2, _, rfl⟩ | ⟨x2, y2, h2, _⟩
    · exact Or.inr (Or.inl ⟨x, y, rfl, rfl⟩)
    · exact Or.inr (Or.inl ⟨x, y2, rfl, rfl⟩)
    · cases h2
  · rcases k with rfl | ⟨x2, y2, h2, _⟩ | ⟨x2, y2, _, rfl⟩
    · exact Or.inr (Or.inr ⟨x, y, rfl, rfl⟩)
    · cases h2
    · exact Or.inr (Or.inr ⟨x, y2, rfl, rfl⟩)
/-- What marking leaves. -/
structure Mk (A B : Nat) (w w' : World) : Prop where
  out : Out A B w w'
  kind : ∀ g o v, g < w.heap.size → w.cell? ⟨g, o, none⟩ = some v → ∃ v', w'.cell? ⟨g, o, none⟩ = some v' ∧ Kd v v'
  frz : ∀ g o, g < w.heap.size → w'.frozen? ⟨g, o, none⟩ = w.frozen? ⟨g, o, none⟩
theorem Out.trans {A B : Nat} {a b c : World} (h : Out A B a b) (k : Out A B b c) : Out A B a c :=
  ⟨h.b0.trans k.b0, fun j h1 h2 => (k.block j (Nat.lt_of_lt_of_le h1 h.b0.size) h2).trans (h.block j h1 h2)⟩
theorem Mk.refl (A B : Nat) (w : World) : Mk A B w w := ⟨⟨Below.refl _ _, fun _ _ _ => rfl⟩, fun _ _ v _ h => ⟨v, h, Or.inl rfl⟩, fun _ _ _ => rfl⟩
theorem Mk.trans {A B : Nat} {a b c : World} (h : Mk A B a b) (k : Mk A B b c) : Mk A B a c :=
  ⟨h.out.trans k.out, fun g o v hg hv => by
    obtain ⟨v1, h1, h2⟩ := h.kind g o v hg hv
    obtain ⟨v2, k1, k2⟩ := k.kind g o v1 (Nat.lt_of_lt_of_le hg h.out.b0.size) h1
    exact ⟨v2, k1, h2.trans k2⟩, fun g o hg => (k.frz g o (Nat.lt_of_lt_of_le hg h.out.b0.size)).trans (h.frz g o hg)⟩
theorem Mk.of_below {A B : Nat} {w w' : World} (h : Below w.heap.size w w') : Mk A B w w' :=
  ⟨⟨h.mono (Nat.zero_le _), fun k hk _ => h.block k hk⟩, fun g o v hg hv => ⟨v, (h.cell (p := ⟨g, o, none⟩) hg).trans hv, Or.inl rfl⟩, fun g o hg => by rw [World.frozen?, h.block g hg]; rfl⟩
theorem Mk.put {A B g o : Nat} {w : World} {v v' : Value} (hA : A ≤ g) (hB : g < B) (hv : w.cell? ⟨g, o, none⟩ = some v) (hk : Kd v v') : Mk A B w (w.setCell ⟨g, o, none⟩ v') := by
  refine ⟨⟨(Below.refl 0 w).setCell (p := ⟨g, o, none⟩) (Nat.zero_le _) _, fun k _ ho => Below.heap_setCell _ _ _ _ (by show k ≠ g; omega)⟩, fun g2 o2 u hg hu => ?_, fun g2 o2 _ => World.frozen?_setCell _ _ _ _⟩
  by_cases h : g2 = g ∧ o2 = o
  · obtain ⟨rfl, rfl⟩ := h
    rw [hv] at hu
    obtain rfl := Option.some.inj hu
    exact ⟨v', World.cell?_setCell_same _ _ _ hv, hk⟩
  · refine ⟨u, ?_, Or.inl rfl⟩
    rw [World.cell?_setCell_other _ _ _ _ (fun e => h (by injection e with e1 e2; exact ⟨e1.symm, e2.symm⟩))]
    exact hu
/-- A row of numbers, whatever they are: each may be stored. -/
def ShI (w : World) (A B : Nat) (v : Value) (m : Nat) : Prop :=
  ∃ a cap, v = .slice a m cap ∧ m ≤ cap ∧ cap ≤ maxLen ∧ (0 < m → ∃ g off, a = some ⟨g, off, none⟩ ∧ A ≤ g ∧ g < B ∧ ∀ j, j < m → (∃ x, w.cell? ⟨g, off + j, none⟩ = some (.int .i64 x)) ∧ w.frozen? ⟨g, off + j, none⟩ = false)
/-- A trie, whatever its labels and numbers are. -/
def ShN (w : World) (A B : Nat) : Nat → Tr → Value → Value → Prop
  | 0, _, _, _ => False
  | n + 1, t, vi, vk => ShI w A B vi t.ids.length ∧ ∃ a cap, vk = .slice a t.ks.length cap ∧ t.ks.length ≤ cap ∧ cap ≤ maxLen ∧ (0 < t.ks.length → ∃ g off, a = some ⟨g, off, none⟩ ∧ A ≤ g ∧ g < B ∧ ∀ j (hj : j < t.ks.length), (∃ l, w.cell? ⟨g, off + j * 3, none⟩ = some (.string l)) ∧ w.frozen? ⟨g, off + j * 3, none⟩ = false ∧ ∃ ui uk, w.cell? ⟨g, off + j * 3 + 1, none⟩ = some ui ∧ w.cell? ⟨g, off + j * 3 + 2, none⟩ = some uk ∧ ShN w A B n t.ks[j] ui uk)
def ShK (w : World) (A B n : Nat) (vk : Value) (ks : List Tr) : Prop := ∃ a cap, vk = .slice a ks.length cap ∧ ks.length ≤ cap ∧ cap ≤ maxLen ∧ (0 < ks.length → ∃ g off, a = some ⟨g, off, none⟩ ∧ A ≤ g ∧ g < B ∧ ∀ j (hj : j < ks.length), (∃ l, w.cell? ⟨g, off + j * 3, none⟩ = some (.string l)) ∧ w.frozen? ⟨g, off + j * 3, none⟩ = false ∧ ∃ ui uk, w.cell? ⟨g, off + j * 3 + 1, none⟩ = some ui ∧ w.cell? ⟨g, off + j * 3 + 2, none⟩ = some uk ∧ ShN w A B n ks[j] ui uk)
theorem IntsIn.shape {w : World} {A B : Nat} {v : Value} {zs : List Int} (h : IntsIn w A B true v zs) : ShI w A B v zs.length := by
  obtain ⟨a, cap, rfl, h1, h2, h3⟩ := h
  refine ⟨a, cap, rfl, h1, h2, fun h0 => ?_⟩
  obtain ⟨g, off, rfl, h4, h5, h6⟩ := h3 h0
  exact ⟨g, off, rfl, h4, h5, fun j hj => ⟨⟨_, (h6 j hj).1⟩, (h6 j hj).2 rfl⟩⟩
theorem NodeIn.shape {w : World} {A B : Nat} : ∀ {n : Nat} {t : Tr} {vi vk : Value}, NodeIn w A B true n t vi vk → ShN w A B n t vi vk
  | 0, _, _, _, h => h.elim
  | n + 1, t, vi, vk, ⟨hi, a, cap, hv, h1, h2, h3⟩ => by
    refine ⟨hi.shape, a, cap, hv, h1, h2, fun h0 => ?_⟩
    obtain ⟨g, off, rfl, h4, h5, h6⟩ := h3 h0
    refine ⟨g, off, rfl, h4, h5, fun j hj => ?_⟩
    obtain ⟨_, k2, k3, ui, uk, k4, k5, k6⟩ := h6 j hj
    exact ⟨⟨_, k3⟩, k2 rfl 0 (by omega), ui, uk, k4, k5, NodeIn.shape k6⟩
theorem ShI.mk {w w' : World} {A B A2 B2 : Nat} {v : Value} {m : Nat} (h : ShI w A B v m) (hk : Mk A2 B2 w w') (hB : B ≤ w.heap.size) : ShI w' A B v m := by
  obtain ⟨a, cap, rfl, h1, h2, h3⟩ := h
  refine ⟨a, cap, rfl, h1, h2, fun h0 => ?_⟩
  obtain ⟨g, off, rfl, h4, h5, h6⟩ := h3 h0
  refine ⟨g, off, rfl, h4, h5, fun j hj => ?_⟩
  obtain ⟨⟨x, hx⟩, hf⟩ := h6 j hj
  obtain ⟨v', h7, h8⟩ := hk.kind g (off + j) _ (by omega) hx
  refine ⟨?_, (hk.frz g (off + j) (by omega)).trans hf⟩
  rcases h8 with rfl | ⟨_, y, _, rfl⟩ | ⟨_, _, h9, _⟩
  · exact ⟨x, h7⟩
  · exact ⟨y, h7⟩
  · cases h9
theorem ShN.forms {w : World} {A B n : Nat} {t : Tr} {vi vk : Value} (h : ShN w A B n t vi vk) : (∃ a l c, vi = .slice a l c) ∧ ∃ a l c, vk = .slice a l c := by
  cases n with
  | zero => exact h.elim
  | succ n =>
    obtain ⟨⟨a, c, h1, _⟩, a2, c2, h2, _⟩ := h
    exact ⟨⟨a, _, c, h1⟩, a2, _, c2, h2⟩
theorem kd_slice {a : Option Addr} {l c : Nat} {v : Value} (h : Kd (.slice a l c) v) : v = .slice a l c := by
  rcases h with rfl | ⟨_, _, h, _⟩ | ⟨_, _, h, _⟩
  · rfl
  · cases h
  · cases h
theorem ShN.mk {w w' : World} {A B A2 B2 : Nat} (hk : Mk A2 B2 w w') (hB : B ≤ w.heap.size) : ∀ {n : Nat} {t : Tr} {vi vk : Value}, ShN w A B n t vi vk → ShN w' A B n t vi vk
  | 0, _, _, _, h => h.elim
  | n + 1, t, vi, vk, ⟨hi, a, cap, hv, h1, h2, h3⟩ => by
    refine ⟨hi.mk hk hB, a, cap, hv, h1, h2, fun h0 => ?_⟩
    obtain ⟨g, off, rfl, h4, h5, h6⟩ := h3 h0
    refine ⟨g, off, rfl, h4, h5, fun j hj => ?_⟩
    obtain ⟨⟨l, hl⟩, hf, ui, uk, k4, k5, k6⟩ := h6 j hj
    obtain ⟨⟨x1, x2, x3, rfl⟩, y1, y2, y3, rfl⟩ := k6.forms
    obtain ⟨v0, m0, n0⟩ := hk.kind g _ _ (by omega) hl
    obtain ⟨v1, m1, n1⟩ := hk.kind g _ _ (by omega) k4
    obtain ⟨v2, m2, n2⟩ := hk.kind g _ _ (by omega) k5
    obtain rfl := kd_slice n1
    obtain rfl := kd_slice n2
    refine ⟨?_, (hk.frz g _ (by omega)).trans hf, _, _, m1, m2, ShN.mk hk hB k6⟩
    rcases n0 with rfl | ⟨_, _, h9, _⟩ | ⟨_, y, _, rfl⟩
    · exact ⟨l, m0⟩
    · cases h9
    · exact ⟨y, m0⟩
theorem ShK.mk {w w' : World} {A B A2 B2 n : Nat} {vk : Value} {ks : List Tr} (h : ShK w A B n vk ks) (hk : Mk A2 B2 w w') (hB : B ≤ w.heap.size) : ShK w' A B n vk ks := by
  have h2 : ShN w A B (n + 1) (.mk ⟨#[]⟩ [] ks) (.slice none 0 0) vk := ⟨⟨none, 0, rfl, Nat.le_refl _, Nat.zero_le _, fun h => absurd h (by simp [Tr.ids])⟩, h⟩
  exact (ShN.mk hk hB h2).2
/-- How many marks a node takes, its label aside. -/
def mkT : Nat → Tr → Nat
  | 0, _ => 0
  | n + 1, t => t.ids.length + (t.ks.map fun k => 1 + mkT n k).sum
theorem mk_parts {n : Nat} {t : Tr} (h : wtT (n + 1) t ≤ 1048576) : t.ids.length ≤ 1048576 ∧ t.ks.length + (t.ks.map (wtT n)).sum ≤ 1048576 := by
  have h2 : wtT (n + 1) t = t.l.size + t.ids.length + (t.ks.length + (t.ks.map (wtT n)).sum) := rfl
  omega
theorem mk_light : ∀ (n : Nat) (t : Tr), mkT n t ≤ wtT n t
  | 0, _ => Nat.le_refl _
  | n + 1, t => by
    have : ∀ ks : List Tr, (ks.map fun k => 1 + mkT n k).sum ≤ ks.length + (ks.map (wtT n)).sum := by
      intro ks
      induction ks with
      | nil => simp
      | cons k ks ih =>
        have := mk_light n k
        simp only [List.map_cons, List.sum_cons, List.length_cons]
        omega
    have h1 := this t.ks
    simp only [mkT, wtT]
    omega
theorem mk_take {n : Nat} {ks : List Tr} {j : Nat} (h : j < ks.length) : ((ks.take (j + 1)).map fun k => 1 + mkT n k).sum = ((ks.take j).map fun k => 1 + mkT n k).sum + (1 + mkT n ks[j]) := by
  rw [List.take_succ_eq_append_getElem h, List.map_append, List.sum_append]
  simp
theorem mk_take_le (n : Nat) (ks : List Tr) (j : Nat) : ((ks.take j).map fun k => 1 + mkT n k).sum ≤ (ks.map fun k => 1 + mkT n k).sum := by
  have : (ks.map fun k => 1 + mkT n k).sum = ((ks.take j).map fun k => 1 + mkT n k).sum + ((ks.drop j).map fun k => 1 + mkT n k).sum := by
    rw [← List.sum_append, ← List.map_append, List.take_append_drop]
  omega
set_option maxRecDepth 100000 in
set_option maxHeartbeats 1000000 in
theorem markInts_sh (v : Value) (m A B k : Nat) (w : World) (hm : m ≤ 1048576) (hB : B ≤ w.heap.size) (hk : k ≤ 4000000) (h : ShI w A B v m) : Calls Tryd.prog 18 #[v, .int .i64 k] w fun e w' => e = .returned (.int .i64 ((k + m : Nat) : Int)) ∧ Mk A B w w' := by
  obtain ⟨a, cap, rfl, _, _, _⟩ := id h
  have HS := Lib.hid h
  clear h
  go_enter Tryd.func18, Tryd.ntmps18
  go_wp2_with fail
  go_loopw [1, 5] (fun kv i wr => ∃ j : Nat, j ≤ m ∧ i = .int .i64 j ∧ kv = .int .i64 ((k + j : Nat) : Int) ∧ Mk A B w wr) (fun _ i _ => m - (intOf i).toNat)
  case atStart => exact ⟨0, Nat.zero_le _, rfl, rfl, Mk.refl _ _ _⟩
  case round =>
    obtain ⟨j, hj, rfl, rfl, hmk⟩ := hrel
    have HM := Lib.hid hmk
    by_cases hlt : j < m
    · obtain ⟨_, _, e, _, _, hx⟩ := HS.out.mk hmk hB
      injection e with e1 _ e3
      subst e1 e3
      obtain ⟨g, off, rfl, hg1, hg2, hc⟩ := hx (by omega)
      obtain ⟨⟨x, hc0⟩, hf0⟩ := hc j hlt
      have s1 : (j : Int) < m := by omega
      obtain ⟨kk, hkk⟩ : ∃ kk : Nat, k + j = kk := ⟨_, rfl⟩
      have hk2 : kk ≤ 8000000 := by omega
      have HK := Lib.hid hkk
      rw [hkk]
      have HC0 := Lib.hid hc0
      clear hkk hc hx hmk
      go_wp2_with fail
      go_roundw
      case rel =>
        refine ⟨j + 1, by omega, by go_num, ?_, HM.out.trans (Mk.put hg1 hg2 HC0.out (Or.inr (Or.inl ⟨_, _, rfl, rfl⟩)))⟩
        congr 1
        have := HK.out
        omega
      case measure => simp [intOf]; omega
    · obtain rfl : j = m := by omega
      have s1 : ¬ (j : Int) < j := by omega
      clear hmk
      go_wp2_with fail
      go_ret
      exact ⟨rfl, HM.out⟩
set_option maxRecDepth 100000 in
set_option maxHeartbeats 2000000 in
theorem markKids_sh (A B : Nat) : ∀ (n : Nat) (ks : List Tr) (vk : Value) (k : Nat) (w : World), 0 < k → k + (ks.map fun t => 1 + mkT n t).sum ≤ 3000000 → ks.length + (ks.map (wtT n)).sum ≤ 1048576 → B ≤ w.heap.size → ShK w A B n vk ks → Calls Tryd.prog 50 #[vk, .int .i64 k] w fun e w' => e = .returned (.int .i64 ((k + (ks.map fun t => 1 + mkT n t).sum : Nat) : Int)) ∧ Mk A B w w' := by
  intro n
  induction n with
  | zero =>
    intro ks vk k w hk0 hk1 hwt hB h
    obtain ⟨a, cap, rfl, _, hcm, hx⟩ := h
    have h0 : ks = [] := by
      cases ks with
      | nil => rfl
      | cons t ks =>
        obtain ⟨g, off, _, _, _, hc⟩ := hx (by simp)
        obtain ⟨_, _, _, _, _, _, hN⟩ := hc 0 (by simp)
        exact hN.elim
    subst h0
    clear hx
    go_enter Tryd.func50, Tryd.ntmps50
    go_wp2_with fail
    go_loopw [1, 5] (fun kv i wr => i = .int .i64 0 ∧ kv = .int .i64 (k : Int) ∧ w = wr) (fun _ _ _ => 0)
    case atStart => exact ⟨rfl, rfl, rfl⟩
    case round =>
      obtain ⟨rfl, rfl, rfl⟩ := hrel
      go_wp2_with fail
      go_ret
      exact ⟨by simp, Mk.refl _ _ _⟩
  | succ n ih =>
    intro ks vk k w hk0 hk1 hwt hB h
    obtain ⟨a, cap, rfl, _, hcm, _⟩ := id h
    have HS := Lib.hid h
    have IH := Lib.hid ih
    clear h ih
    unfold maxLen at hcm
    go_enter Tryd.func50, Tryd.ntmps50
    go_wp2_with fail
    go_loopw [1, 5] (fun kv i wr => ∃ j : Nat, j ≤ ks.length ∧ i = .int .i64 j ∧ kv = .int .i64 ((k + ((ks.take j).map fun t => 1 + mkT (n + 1) t).sum : Nat) : Int) ∧ Mk A B w wr) (fun _ i _ => ks.length - (intOf i).toNat)
    case atStart => exact ⟨0, Nat.zero_le _, rfl, by simp, Mk.refl _ _ _⟩
    case round =>
      obtain ⟨j, hj, rfl, rfl, hmk⟩ := hrel
      have HM := Lib.hid hmk
      by_cases hlt : j < ks.length
      · obtain ⟨_, _, e, _, _, hx⟩ := HS.out.mk hmk hB
        injection e with e1 _ e3
        subst e1 e3
        obtain ⟨g, off, rfl, hg1, hg2, hc⟩ := hx (by omega)
        obtain ⟨⟨l0, hl0⟩, hf0, ui, uk, hu1, hu2, hN⟩ := hc j hlt
        obtain ⟨⟨x1, x2, x3, rfl⟩, y1, y2, y3, rfl⟩ := hN.forms
        have s1 : (j : Int) < ks.length := by omega
        have hle := mk_take_le (n + 1) ks (j + 1)
        rw [mk_take hlt] at hle
        have hTK := Lib.hid (mk_take (n := n + 1) hlt)
        have hwk := kid_weighs (n := n + 1) (List.getElem_mem hlt)
        obtain ⟨kk, hkk⟩ : ∃ kk : Nat, k + ((ks.take j).map fun t => 1 + mkT (n + 1) t).sum = kk := ⟨_, rfl⟩
        obtain ⟨t, ht⟩ : ∃ t : Tr, ks[j] = t := ⟨_, rfl⟩
        rw [ht] at hle hTK hwk hN
        have hmt : mkT (n + 1) t = t.ids.length + (t.ks.map fun k => 1 + mkT n k).sum := rfl
        have hwt2 := mk_parts (n := n) (t := t) (by omega)
        have hkk0 : 0 < kk := by omega
        have hkk1 : kk + (1 + mkT (n + 1) t) ≤ 3000000 := by omega
        have HK := Lib.hid hkk
        rw [hkk]
        have HN := Lib.hid hN
        have HL0 := Lib.hid hl0
        have HU1 := Lib.hid hu1
        have HU2 := Lib.hid hu2
        have HF0 := Lib.hid hf0
        have hszw := hmk.out.b0.size
        have hgw : g < wr.heap.size := by omega
        clear hkk hc hx hmk hN hl0 hu1 hu2 ht hf0 hwk
        go_wp2_with fail
        refine (markText2_any kk wr hkk0 (by omega)).mono ?_
        rintro e w1 ⟨rfl, hb1⟩
        have hM1 : Mk A B wr w1 := Mk.of_below hb1
        obtain ⟨l1, hl1⟩ : ∃ l1, w1.cell? ⟨g, off + j * 3, none⟩ = some (.string l1) := ⟨l0, (hb1.cell (p := ⟨g, off + j * 3, none⟩) hgw).trans HL0.out⟩
        have hf1 : w1.frozen? ⟨g, off + j * 3, none⟩ = false := (hM1.frz g _ hgw).trans HF0.out
        have hM2 : Mk A B wr (w1.setCell ⟨g, off + j * 3, none⟩ (.string (mT kk))) := hM1.trans (Mk.put hg1 hg2 hl1 (Or.inr (Or.inr ⟨_, _, rfl, rfl⟩)))
        have hN2 := ShN.mk hM2 (by omega) HN.out
        obtain ⟨v1, m1, n1⟩ := hM2.kind g _ _ hgw HU1.out
        obtain ⟨v2, m2, n2⟩ := hM2.kind g _ _ hgw HU2.out
        obtain rfl := kd_slice n1
        obtain rfl := kd_slice n2
        have hsz1 := hM2.out.b0.size
        have HM2 := Lib.hid hM2
        have HI2 := Lib.hid hN2.1
        have HK2 : Hid (ShK _ A B n _ t.ks) := Lib.hid hN2.2
        clear hM1 hM2 hN2 hb1 n1 n2
        go_wp2_with fail
        refine (markInts_sh _ t.ids.length A B (kk + 1) _ (by omega) (by omega) (by omega) HI2.out).mono ?_
        rintro e w3 ⟨rfl, hM3⟩
        obtain ⟨v2, m3, n2⟩ := hM3.kind g _ _ (by omega) m2
        obtain rfl := kd_slice n2
        have HK3 := Lib.hid (HK2.out.mk hM3 (by omega))
        have hM4 := HM2.out.trans hM3
        have hsz3 := hM4.out.b0.size
        have HM4 := Lib.hid hM4
        clear hM3 hM4 n2 m1 m2
        go_wp2_with fail
        refine (IH.out t.ks _ (kk + 1 + t.ids.length) w3 (by omega) (by omega) hwt2.2 (by omega) HK3.out).mono ?_
        rintro e w5 ⟨rfl, hM5⟩
        have HM5 := Lib.hid (HM.out.trans (HM4.out.trans hM5))
        clear hM5
        go_wp2_with fail
        go_roundw
        case rel =>
          refine ⟨j + 1, by omega, by go_num, ?_, HM5.out⟩
          congr 1
          have h1 := HK.out
          have h2 := hTK.out
          omega
        case measure => simp [intOf]; omega
      · obtain rfl : j = ks.length := by omega
        have s1 : ¬ ((ks.length : Nat) : Int) < ks.length := by omega
        rw [List.take_of_length_le (Nat.le_refl _)]
        clear hmk
        go_wp2_with fail
        go_ret
        exact ⟨rfl, HM.out⟩
set_option maxRecDepth 100000 in
set_option maxHeartbeats 1000000 in
theorem markNode_any (A B n k : Nat) (t : Tr) (vi vk : Value) (w : World) (hk0 : 0 < k) (hk1 : k ≤ 1000000) (hwt : wtT n t ≤ 1048576) (hB : B ≤ w.heap.size) (h : NodeIn w A B true n t vi vk) : Calls Tryd.prog 17 #[.agg #[.string t.l, vi, vk], .int .i64 k] w fun e w' => e = .returned (.int .i64 ((k + mkT n t : Nat) : Int)) ∧ Out A B w w' := by
  cases n with
  | zero => exact h.elim
  | succ n =>
    have hs := h.shape
    obtain ⟨⟨x1, x2, x3, rfl⟩, y1, y2, y3, rfl⟩ := h.forms
    have hb0 := (Below.refl w.heap.size w).alloc (Nat.le_refl _) (.cells #[.string t.l, .slice x1 x2 x3, .slice y1 y2 y3] 30)
    have hM0 : Mk A B w (w.alloc (.cells #[.string t.l, .slice x1 x2 x3, .slice y1 y2 y3] 30)) := Mk.of_below hb0
    have P0 := NdB.new w 30 t.l (.slice x1 x2 x3) (.slice y1 y2 y3)
    have hs1 := ShN.mk hM0 hB hs
    have HI1 := Lib.hid hs1.1
    have HK1 : Hid (ShK _ A B n _ t.ks) := Lib.hid hs1.2
    have HM0 := Lib.hid hM0
    have HP0 := Lib.hid P0
    have hlt := mk_light (n + 1) t
    have hmt : mkT (n + 1) t = t.ids.length + (t.ks.map fun k => 1 + mkT n k).sum := rfl
    have hwt2 := mk_parts hwt
    have hsz0 := hb0.size
    obtain ⟨c0, c1, c2⟩ := P0.at
    clear h hs hs1 hM0 P0 hb0
    go_enter Tryd.func17, Tryd.ntmps17
    go_wp2_with fail
    refine (markInts_sh _ t.ids.length A B k _ (by omega) (by omega) (by omega) HI1.out).mono ?_
    rintro e w1 ⟨rfl, hM1⟩
    have HK2 := Lib.hid (HK1.out.mk hM1 (by omega))
    have hb1 : w.heap.size < w1.heap.size := by have := hM1.out.b0.size; simp at this; omega
    have P1 : NdB w1 w.heap.size 30 t.l (.slice x1 x2 x3) (.slice y1 y2 y3) := (hM1.out.block w.heap.size (by simp) (Or.inr (by omega))).trans HP0.out
    have HM1 := Lib.hid (HM0.out.trans hM1)
    clear hM1 c0 c1 c2
    obtain ⟨c0, c1, c2⟩ := P1.at
    clear P1
    go_wp2_with fail
    refine (markKids_sh A B n t.ks _ (k + t.ids.length) w1 (by omega) (by omega) hwt2.2 (by omega) HK2.out).mono ?_
    rintro e w2 ⟨rfl, hM2⟩
    have HM2 := Lib.hid (HM1.out.trans hM2)
    clear hM2
    have HE : Hid (k + t.ids.length + (t.ks.map fun t => 1 + mkT n t).sum = k + mkT (n + 1) t) := Lib.hid (by omega)
    go_wp2_with fail
    go_ret
    exact ⟨by rw [← HE.out]; rfl, HM2.out.out⟩
end Go.Proofs.YtcaabnnkjnleeaaDoor
