/- Plain facts on tokens and on the numbers that begin a text: lists of bytes alone. No program is named here. No condition. -/
import Derived.Test.YtpdonghdnaehhaaGreatDoorZGa
import Derived.Lib.FieldsP
import Derived.Lib.Split
import Derived.Lib.SlTrimSet
import Derived.WideShapes
namespace Go.Proofs.YtpdonghdnaehhaaGreatDoor
open Go.WideShapes

/-- A byte that parts tokens. -/
def delimB (b : UInt8) : Bool := decide (b.toNat = 9 ∨ 32 ≤ b.toNat ∧ b.toNat ≤ 47 ∨ 59 ≤ b.toNat ∧ b.toNat ≤ 64 ∨ 91 ≤ b.toNat ∧ b.toNat ≤ 96 ∨ 123 ≤ b.toNat ∧ b.toNat ≤ 126)
def delimR (r : Nat) : Bool := decide (r = 9 ∨ 32 ≤ r ∧ r ≤ 47 ∨ 59 ≤ r ∧ r ≤ 64 ∨ 91 ≤ r ∧ r ≤ 96 ∨ 123 ≤ r ∧ r ≤ 126)
theorem delim_rune (b : UInt8) : delimB b = delimR b.toNat := rfl
theorem delimR_high {r : Nat} (h : 128 ≤ r) : delimR r = false := by simp only [delimR, decide_eq_false_iff_not]; omega
theorem delim_high {b : UInt8} (h : 128 ≤ b.toNat) : delimB b = false := delimR_high h
/-- The tokens of a list of bytes; 'cur' is the token that goes on. -/
def tokAcc (cur : List UInt8) : List UInt8 → List (List UInt8)
  | [] => if cur = [] then [] else [cur]
  | b :: l => if delimB b then (if cur = [] then tokAcc [] l else cur :: tokAcc [] l) else tokAcc (cur ++ [b]) l
def tokL (l : List UInt8) : List (List UInt8) := tokAcc [] l
theorem tokAcc_more : ∀ (l cur m : List UInt8), (∀ b ∈ l, delimB b = false) → tokAcc cur (l ++ m) = tokAcc (cur ++ l) m
  | [], cur, m, _ => by simp
  | b :: l, cur, m, h => by
    rw [List.cons_append, tokAcc, if_neg (by rw [h b (by simp)]; simp), tokAcc_more l _ m (fun x hx => h x (by simp [hx]))]
    simp
theorem tokAcc_cut {cur : List UInt8} (hc : cur ≠ []) {b : UInt8} {l : List UInt8} (hb : delimB b = true) : tokAcc cur (b :: l) = cur :: tokAcc [] l := by
  rw [tokAcc, if_pos hb, if_neg hc]
theorem tokAcc_end {cur : List UInt8} (hc : cur ≠ []) : tokAcc cur [] = [cur] := by rw [tokAcc, if_neg hc]
theorem tokL_skip {b : UInt8} {l : List UInt8} (hb : delimB b = true) : tokL (b :: l) = tokL l := by
  rw [tokL, tokAcc, if_pos hb, if_pos rfl]
  rfl
theorem tokL_nil : tokL [] = [] := rfl
/-- A run of bytes that part nothing, up to the end or to a byte that does, is a token. -/
theorem tokL_run {u r : List UInt8} (hu : u ≠ []) (h : ∀ b ∈ u, delimB b = false) (hr : ∀ b, r.head? = some b → delimB b = true) : tokL (u ++ r) = u :: tokL r := by
  rw [tokL, tokAcc_more u [] r h, List.nil_append]
  cases r with
  | nil => rw [tokAcc_end hu]; rfl
  | cons b r => rw [tokAcc_cut hu (hr b rfl), tokL_skip (hr b rfl)]; rfl
theorem tok_ne : ∀ (l cur : List UInt8), ∀ t ∈ tokAcc cur l, t ≠ []
  | [], cur, t, h => by
    rw [tokAcc] at h
    split at h
    · cases h
    · simp at h; subst h; assumption
  | b :: l, cur, t, h => by
    rw [tokAcc] at h
    split at h
    · split at h
      · exact tok_ne l [] t h
      · rcases List.mem_cons.1 h with rfl | h
        · assumption
        · exact tok_ne l [] t h
    · exact tok_ne l _ t h
theorem tok_len : ∀ (l cur : List UInt8), (tokAcc cur l).length ≤ l.length + 1 ∧ (cur = [] → (tokAcc cur l).length ≤ l.length)
  | [], cur => by
    rw [tokAcc]
    split <;> simp_all
  | b :: l, cur => by
    have h1 := (tok_len l []).2 rfl
    have h2 := (tok_len l (cur ++ [b])).1
    rw [tokAcc]
    split
    · split
      · simp; omega
      · refine ⟨by simp; omega, fun h => absurd h (by assumption)⟩
    · simp; omega
theorem tokL_len (l : List UInt8) : (tokL l).length ≤ l.length := (tok_len l []).2 rfl
/-- A token is no longer than the text. -/
theorem tok_size : ∀ (l cur : List UInt8), ∀ t ∈ tokAcc cur l, t.length ≤ cur.length + l.length
  | [], cur, t, h => by
    rw [tokAcc] at h
    split at h
    · cases h
    · simp at h; subst h; simp
  | b :: l, cur, t, h => by
    rw [tokAcc] at h
    split at h
    · split at h
      · have := tok_size l [] t h; simp at this ⊢; omega
      · rcases List.mem_cons.1 h with rfl | h
        · simp
        · have := tok_size l [] t h; simp at this ⊢; omega
    · have := tok_size l _ t h; simp at this ⊢; omega
/-- What lies between two places. -/
def span (l : List UInt8) (x : Nat × Nat) : List UInt8 := (l.take x.2).drop x.1
theorem span_extract (s : ByteArray) (x : Nat × Nat) : (s.extract x.1 x.2).data.toList = span s.data.toList x := by simp [span, List.drop_take]
theorem span_more {l : List UInt8} {a p k : Nat} (ha : a ≤ p) : span l (a, p + k) = span l (a, p) ++ (l.drop p).take k := by
  unfold span
  simp only
  rw [List.take_add, List.drop_append]
  congr 1
  rw [List.length_take]
  by_cases h : p ≤ l.length
  · rw [Nat.min_eq_left h, show a - p = 0 by omega]; rfl
  · rw [List.drop_eq_nil_of_le (as := l) (i := p) (by omega)]; simp
theorem span_self (l : List UInt8) (p : Nat) : span l (p, p) = [] := by
  unfold span
  exact List.drop_eq_nil_of_le (by simp; omega)
theorem spans_tok (s : ByteArray) : ∀ (f pos : Nat) (st : Option Nat) (done : List (Nat × Nat)), s.size ≤ pos + f → pos ≤ s.size → (∀ a, st = some a → a < pos) →
    (Lib.closeSpans s (Lib.spansFromP delimR s f pos st done)).map (span s.data.toList) = done.map (span s.data.toList) ++ tokAcc (match st with | some a => span s.data.toList (a, pos) | none => []) (s.data.toList.drop pos) := by
  have hend : ∀ (pos : Nat) (st : Option Nat) (done : List (Nat × Nat)), pos = s.size → (∀ a, st = some a → a < pos) →
      (Lib.closeSpans s (done, st)).map (span s.data.toList) = done.map (span s.data.toList) ++ tokAcc (match st with | some a => span s.data.toList (a, pos) | none => []) (s.data.toList.drop pos) := by
    rintro pos st done rfl hst
    rw [List.drop_eq_nil_of_le (by simp)]
    cases st with
    | none => simp [Lib.closeSpans, tokAcc]
    | some a =>
      have ha := hst a rfl
      have hne : span s.data.toList (a, s.size) ≠ [] := fun h => by
        have := congrArg List.length h
        simp [span] at this
        omega
      rw [tokAcc_end hne]
      simp [Lib.closeSpans]
  intro f
  induction f with
  | zero =>
    intro pos st done h hp hst
    exact hend pos st done (by omega) hst
  | succ f ih =>
    intro pos st done h hp hst
    by_cases hlt : pos < s.size
    · have hd : s.data.toList.drop pos = s[pos]'hlt :: s.data.toList.drop (pos + 1) := by
        have := List.drop_eq_getElem_cons (l := s.data.toList) (i := pos) (by simpa using hlt)
        rw [this]
        rfl
      unfold Lib.spansFromP
      rw [if_pos hlt]
      by_cases ha : (s[pos]'hlt).toNat < 128
      · have hdec := decode_ascii s pos hlt ha
        rw [hdec]
        simp only
        cases hb : delimB (s[pos]'hlt) with
        | true =>
          rw [if_pos (by rw [← delim_rune]; exact hb)]
          cases st with
          | none =>
            simp only
            rw [ih (pos + 1) none done (by omega) (by omega) (fun a h => by cases h), hd, tokAcc, if_pos hb, if_pos rfl]
          | some a =>
            have hap := hst a rfl
            have hne : span s.data.toList (a, pos) ≠ [] := fun h => by
              have := congrArg List.length h
              simp [span] at this
              omega
            simp only
            rw [ih (pos + 1) none (done ++ [(a, pos)]) (by omega) (by omega) (fun a h => by cases h), hd, tokAcc_cut hne hb]
            simp
        | false =>
          rw [if_neg (by rw [← delim_rune, hb]; simp)]
          have hone : span s.data.toList (pos, pos + 1) = [s[pos]'hlt] := by
            rw [span_more (Nat.le_refl _), span_self, hd]
            simp
          cases st with
          | none =>
            simp only
            rw [ih (pos + 1) (some pos) done (by omega) (by omega) (fun a h => by cases h; omega), hd, tokAcc, if_neg (by rw [hb]; simp)]
            simp only [List.nil_append]
            rw [hone]
          | some a =>
            have hap := hst a rfl
            simp only
            rw [ih (pos + 1) (some a) done (by omega) (by omega) (fun b h => by cases h; omega), hd, tokAcc, if_neg (by rw [hb]; simp)]
            simp only
            rw [span_more (by omega : a ≤ pos), hd]
            simp
      · have ha' : 128 ≤ (s[pos]'hlt).toNat := by omega
        obtain ⟨_, hr⟩ | ⟨_, hr⟩ := rune_cases s pos hlt
        · omega
        · rw [if_neg (by rw [delimR_high hr]; simp)]
          obtain ⟨hw2, hall⟩ := decode_skip s pos hlt ha'
          have hw1 := width_pos s pos hlt
          have htk : s.data.toList.drop pos = (s.data.toList.drop pos).take (Utf8.decode s pos).2 ++ s.data.toList.drop (pos + (Utf8.decode s pos).2) := by
            rw [← List.drop_drop, List.take_append_drop]
          have hnd : ∀ b ∈ (s.data.toList.drop pos).take (Utf8.decode s pos).2, delimB b = false := by
            intro b hb
            obtain ⟨j, hj, rfl⟩ := List.mem_iff_getElem.1 hb
            rw [List.length_take, List.length_drop] at hj
            have h1 := hall (pos + j) (by simp at hj; omega) (by omega) (by omega)
            rw [List.getElem_take, List.getElem_drop]
            exact delim_high h1
          generalize (Utf8.decode s pos).2 = k at *
          cases st with
          | none =>
            simp only
            rw [ih (pos + k) (some pos) done (by omega) (by omega) (fun a h => by cases h; omega), htk, tokAcc_more _ _ _ hnd]
            simp only [List.nil_append]
            rw [span_more (Nat.le_refl _), span_self, List.nil_append]
          | some a =>
            have hap := hst a rfl
            simp only
            rw [ih (pos + k) (some a) done (by omega) (by omega) (fun b h => by cases h; omega), htk, tokAcc_more _ _ _ hnd]
            simp only
            rw [span_more (by omega : a ≤ pos)]
    · rw [Lib.spansFromP_end _ _ _ _ _ _ hlt]
      exact hend pos st done (by omega) hst
theorem fields_tok (s : ByteArray) : (Lib.goFieldsP delimR s).map (fun u => u.data.toList) = tokL s.data.toList := by
  unfold Lib.goFieldsP Lib.spansOfP
  rw [List.map_map]
  have h := spans_tok s s.size 0 none [] (by omega) (Nat.zero_le _) (fun a h => by cases h)
  have e : ((fun u : ByteArray => u.data.toList) ∘ fun x : Nat × Nat => s.extract x.1 x.2) = span s.data.toList := by
    funext x
    exact span_extract s x
  rw [e, h]
  rfl
end Go.Proofs.YtpdonghdnaehhaaGreatDoor
