/- A region whose order is drawn: its first n operations leave a class of worlds and yield one value each in all of it; behind them the others come in one order. Over any program. No condition. -/
import Derived.Test.YtcaabnnkjnleeaaDoorBase
import Derived.StillTail
import Derived.Deep.QuietTactic
namespace Go.Proofs.YtcaabnnkjnleeaaDoor
open Go

section
variable {P : Program} {ops : Array Oper} {md : Region.Mode} {K : World → Prop}
/-- Whatever of the first n may come next, f times over, then what L says. -/
def HeadQ (P : Program) (md : Region.Mode) (ops : Array Oper) (K : World → Prop) (n : Nat) (L : Array Bool → Act → Prop) (f : Nat) (listed : Array Bool) (a : Act) : Prop :=
  match f with
  | 0 => L listed a
  | f + 1 => Region.ready md ops listed ≠ [] ∧ ∀ i, i ∈ Region.ready md ops listed → i < n ∧ qOp P ops K i (HeadQ P md ops K n L f (listed.setIfInBounds i true)) a
theorem HeadQ.down {n g : Nat} {L : Array Bool → Act → Prop} {Q : Exit → Act → World → Prop} (hL : ∀ (listed : Array Bool) (a : Act) (w : World), K w → L listed a → wpAny P md ops Q g listed a w) (f : Nat) :
    ∀ (listed : Array Bool) (a : Act) (w : World), K w → HeadQ P md ops K n L f listed a → wpAny P md ops Q (f + g) listed a w := by
  induction f with
  | zero =>
    intro listed a w hw h
    rw [Nat.zero_add]
    exact hL listed a w hw h
  | succ f ih =>
    intro listed a w hw h
    obtain ⟨h1, h2⟩ := h
    rw [Nat.add_right_comm]
    exact ⟨fun e => (h1 e).elim, fun i hi => wpOp_of_qOp hw (fun a2 w2 hk hh => ih _ a2 w2 hk hh) (h2 i hi).2⟩
theorem HeadQ.first {n i : Nat} {oi : Oper} {v : Value} {L : Array Bool → Act → Prop} (hi : ops[i]? = some oi) (hns : ∀ (j : Nat) (o : Oper) cs b, ops[j]? = some o → o.op ≠ .select cs b)
    (hs : Region.sinkB md ops n = true) (hc : Region.chainB md ops n = true) (hn : n < ops.size) (hin : i < n) (hL : ∀ listed a, L listed a → ∀ j ∈ Region.ready md ops listed, n ≤ j) (f : Nat) :
    ∀ (listed : Array Bool) (a : Act), HeadInv md ops n listed → (∀ j oj, ops[j]? = some oj → j ≠ i → listed.getD j true = false → (∀ e ∈ oj.after, Region.binds md e = true → e.on ≠ i) → oi.apart ops oj = true) →
      i ∈ Region.ready md ops listed → YieldsIn P ops K oi v a → HeadQ P md ops K n L f (listed.setIfInBounds i true) (a.put oi.dst v) → HeadQ P md ops K n L (f + 1) listed a := by
  induction f with
  | zero =>
    intro listed a inv _ hr hy h
    refine ⟨List.ne_nil_of_mem hr, fun j hj => ?_⟩
    have hlt : j < n := Nat.lt_of_not_le fun hle => tail_waits hs hc hn inv _ i rfl hin (mem_ready.1 hr).1 j hle hj
    refine ⟨hlt, ?_⟩
    by_cases e : j = i
    · rw [e]
      exact hy.qOp hi h
    · exact absurd (hL _ _ h j (ready_mono hj e)) (by omega)
  | succ f ih =>
    intro listed a inv hfree hr hy h
    refine ⟨List.ne_nil_of_mem hr, fun j hj => ?_⟩
    have hlt : j < n := Nat.lt_of_not_le fun hle => tail_waits hs hc hn inv _ i rfl hin (mem_ready.1 hr).1 j hle hj
    refine ⟨hlt, ?_⟩
    by_cases e : j = i
    · rw [e]
      exact hy.qOp hi h
    · have hq := (h.2 j (ready_mono hj e)).2
      obtain ⟨hju, oj, hoj, hall⟩ := mem_ready.1 hj
      have hno : ∀ x ∈ oj.after, Region.binds md x = true → x.on ≠ i := fun x hx hb ex => by
        have h1 := hall x hx hb
        rw [ex, getD_both (mem_ready.1 hr).1] at h1
        exact absurd h1 (by decide)
      have h2 := qOp_put hoj (hfree j oj hoj e hju hno) (fun cs b => hns i oi cs b hi) (fun cs b => hns j oj cs b hoj) hy hq
      have hfree2 : ∀ k ok, ops[k]? = some ok → k ≠ i → (listed.setIfInBounds j true).getD k true = false → (∀ x ∈ ok.after, Region.binds md x = true → x.on ≠ i) → oi.apart ops ok = true := fun k ok hk hki hku hx => by
        refine hfree k ok hk hki ?_ hx
        by_cases ejk : j = k
        · exact ejk ▸ hju
        · rwa [getD_set_ne true ejk] at hku
      refine qOp_mono (fun a2 h3 => ih (listed.setIfInBounds j true) a2 (inv.set hj hlt) hfree2 (ready_mono hr (Ne.symm e)) h3.1 ?_) h2
      rw [Array.setIfInBounds_comm _ _ e]
      exact h3.2
theorem HeadQ.lex {n g : Nat} {M : Act → Prop} (hsel : Region.noSelect ops = true) (hs : Region.sinkB md ops n = true) (hc : Region.chainB md ops n = true) (hn : n < ops.size) :
    ∀ (l : List Oper) (k : Nat) (listed : Array Bool) (a : Act), (∀ j, j < l.length → l[j]? = ops[k + j]?) → k + l.length = n → HeadInv md ops n listed → Region.lexHead md ops g l.length k listed = true →
      wpQuiet P ops K M l a → HeadQ P md ops K n (fun listed2 a2 => Region.seqB md ops g n listed2 = true ∧ M a2) l.length listed a := by
  intro l
  induction l with
  | nil =>
    intro k listed a _ hk _ hB h
    obtain rfl : k = n := by simpa using hk
    exact ⟨by simpa [Region.lexHead] using hB, h⟩
  | cons o l ih =>
    intro k listed a hl hk inv hB h
    have h0 : ops[k]? = some o := by simpa using (hl 0 (by simp)).symm
    simp only [List.length_cons, Region.lexHead, Bool.and_eq_true] at hB hk
    obtain ⟨⟨hr, hf⟩, hB2⟩ := hB
    have hr2 : k ∈ Region.ready md ops listed := by simpa using hr
    have hq : qOp P ops K k (wpQuiet P ops K M l) a := by
      unfold qOp
      simp only [h0]
      exact h
    obtain ⟨v, hy, hM⟩ := yieldsIn_of_qOp h0 hq
    refine HeadQ.first h0 (Region.noSelect_spec hsel) hs hc hn (by omega) (fun listed2 a2 hL => seqB_ready hL.1) l.length listed a inv (Region.free_spec h0 hf) hr2 hy ?_
    exact ih (k + 1) _ _ (fun j hj => by have := hl (j + 1) (by simp; omega); simpa [Nat.add_assoc, Nat.add_comm 1 j] using this) (by omega) (inv.set hr2 (by omega)) hB2 hM
theorem wpAny_quiet_tail {Q : Exit → Act → World → Prop} {a : Act} {w : World} {l : List Oper} (n : Nat) (K : World → Prop) (hB : Region.lexTailB .any l.toArray n = true) (hK : K w)
    (h : wpQuiet P l.toArray K (fun a2 => ∀ w2, K w2 → wpList P l.toArray Q (l.drop n) a2 w2) (l.take n) a) : wpAny P .any l.toArray Q l.toArray.size (Array.replicate l.toArray.size false) a w := by
  simp only [Region.lexTailB, Bool.and_eq_true, decide_eq_true_eq] at hB
  obtain ⟨⟨⟨⟨hsel, hn⟩, hs⟩, hc⟩, hlex⟩ := hB
  have htl : (l.take n).length = n := by
    have : n < l.length := by simpa using hn
    simp
    omega
  have inv0 : HeadInv .any l.toArray n (Array.replicate l.toArray.size false) :=
    ⟨by simp, fun j oj _ hl => absurd hl (by rw [getD_replicate_false]; decide), fun t _ ht => getD_in (by simpa using ht) (getD_replicate_false _ _)⟩
  have H := HeadQ.lex (md := .any) (g := l.toArray.size - n) hsel hs hc hn (l.take n) 0 _ a (fun j hj => by
    have : j < n := by rw [htl] at hj; exact hj
    simp [this]) (by simpa using htl) inv0 (by rw [htl]; exact hlex) h
  have D := HeadQ.down (Q := Q) (g := l.toArray.size - n) (fun listed a2 w2 hk hL => by
    have := wpAny_of_seq (md := .any) (Q' := Q) (l.drop n) n listed a2 w2 (fun j => by simp [List.getElem?_drop]) (by rw [show (l.drop n).length = l.toArray.size - n by simp]; exact hL.1) (hL.2 w2 hk)
    rwa [show (l.drop n).length = l.toArray.size - n by simp] at this) _ _ _ _ hK H
  rw [htl, show n + (l.toArray.size - n) = l.toArray.size by omega] at D
  exact D
/-- One walk of the first n in the text's order, then the others: it serves every order. -/
theorem wp_region_quiet_tail {id : Nat} {Q : Exit → Act → World → Prop} {a : Act} {w : World} {l : List Oper} (n : Nat) (K : World → Prop) (hm : P.follows .mixedOrders = true) (hB : Region.lexTailB .any l.toArray n = true) (hK : K { w with drawn := w.drawn + 1 })
    (h : wpQuiet P l.toArray K (fun a2 => ∀ w2, K w2 → wpList P l.toArray Q (l.drop n) a2 w2) (l.take n) a) : (Code.region id l.toArray true).wp P Q a w :=
  wp_region_any hm (wpAny_quiet_tail n K hB hK h)
end
end Go.Proofs.YtcaabnnkjnleeaaDoor
