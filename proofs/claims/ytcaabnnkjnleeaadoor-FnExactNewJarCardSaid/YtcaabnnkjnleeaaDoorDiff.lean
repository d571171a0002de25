/- Whether the texts of a list are all different: the program strikes each from a map of those that it awaits. No condition of its own. -/
import Derived.Test.YtcaabnnkjnleeaaDoorText
import Derived.Test.YtcaabnnkjnleeaaDoorSufMath
import Derived.Maps.OwnSet
import Derived.Maps.OwnOps
namespace Go.Proofs.YtcaabnnkjnleeaaDoor
open Go.ChangeShapes Go.WideShapes Go.ChangeAt Go.WideMaps Go.WideElems Go.RowKit
open Go.Maps (Keyed string_keyed IsMap atKey_put_same atKey_put_other atKey_del_same atKey_del_other)

theorem bool_inv {P : Program} {e : TypeId} (he : P.underlying e = some .bool) {v : Value} {z : DataW Unit × List MemPlace} (h : plainElem P e v = some z) : ∃ x, v = .bool x ∧ z = (.lit (.bool x), []) := by
  unfold plainElem at h
  rw [he] at h
  cases v <;> simp at h
  obtain rfl := h
  exact ⟨_, rfl, rfl⟩
/-- 'm[k]' in a map of bools that the call made. -/
theorem wpList_lookup_own_bool {P : Program} (w : World) {ops : Array Oper} {rest : List Oper} {o : Oper} {a : Act} {Q : Exit → Act → World → Prop}
    (hg : o.guard = none) (m x : Operand) (t : TypeId) (hop : o.op = Op.lookup t m x false)
    (k e : TypeId) (K : Keyed P k) (ht : P.underlying t = some (.map k e)) (he : P.underlying e = some .bool) (hz : (zeroValue e).run P w = .ok (.bool false) w) (b n : Nat) (D : DataW Unit)
    (hm : a.eval m = .map (some b)) (hown : w.ownsMap P k (plainElem P e) b n D) (key : Value) (kl : Lit) (hx : a.eval x = key) (hkey : keyOf P k key = some kl) (c : Bool) (hc : D.atKey kl (.lit (.bool false)) = .lit (.bool c))
    (hK : wpList P ops Q rest (a.put o.dst (.bool c)) w) : wpList P ops Q (o :: rest) a w := by
  refine wpList_plain hg fun K' hK' => ?_
  obtain ⟨v, ps, hrun, hv⟩ := hown.lookup K ht hz (plainElem_bool he false) hkey
  rw [hc] at hv
  obtain ⟨y, rfl, hy⟩ := bool_inv he hv
  simp only [Prod.mk.injEq, DataW.lit.injEq, Lit.bool.injEq] at hy
  obtain ⟨rfl, _⟩ := hy
  unfold Oper.wp
  simp [execOp, hop, hm, hx, hrun, Result.andThen]
  exact hK' _ _ hK
theorem setLaw : Keyed Tryd.prog 9 := string_keyed Tryd.underlying9
theorem setTxt (s : ByteArray) (h : s.size ≤ maxLen) : keyOf Tryd.prog 9 (.string s) = some (.string s.data.toList) := keyOf_string_mk Tryd.underlying9 h
theorem zeroBool (w : World) : (zeroValue 4).run Tryd.prog w = .ok (.bool false) w := by kernel_rfl
/-- The map at M tells of each text whether S holds of it. -/
def Awaits (w : World) (M n : Nat) (S : List UInt8 → Bool) : Prop := ∃ D : DataW Unit, w.ownsMap Tryd.prog 9 (plainElem Tryd.prog 4) M n D ∧ IsMap D ∧ ∀ x : List UInt8, D.atKey (.string x) (.lit (.bool false)) = .lit (.bool (S x))
theorem Awaits.put {w' : World} {M n : Nat} {S : List UInt8 → Bool} {D : DataW Unit} {x : List UInt8} (hD : IsMap D) (hS : ∀ x : List UInt8, D.atKey (.string x) (.lit (.bool false)) = .lit (.bool (S x)))
    (h : w'.ownsMap Tryd.prog 9 (plainElem Tryd.prog 4) M n (D.put (.string x) (.lit (.bool true)))) : Awaits w' M n (fun y => if y = x then true else S y) := by
  refine ⟨_, h, hD.put _ _, fun y => ?_⟩
  dsimp only
  by_cases e : y = x
  · subst e
    rw [if_pos rfl, atKey_put_same hD (by simp [WideAt.IsKeyLit])]
  · rw [if_neg e, atKey_put_other (fun h2 => e (by simpa using h2)), hS]
theorem Awaits.del {w' : World} {M n : Nat} {S : List UInt8 → Bool} {D : DataW Unit} {x : List UInt8} (hD : IsMap D) (hS : ∀ x : List UInt8, D.atKey (.string x) (.lit (.bool false)) = .lit (.bool (S x)))
    (h : w'.ownsMap Tryd.prog 9 (plainElem Tryd.prog 4) M n (D.del (.string x))) : Awaits w' M n (fun y => if y = x then false else S y) := by
  refine ⟨_, h, hD.del _, fun y => ?_⟩
  dsimp only
  by_cases e : y = x
  · subst e
    rw [if_pos rfl, atKey_del_same]
  · rw [if_neg e, atKey_del_other (fun h2 => e (by simpa using h2)), hS]
def inTo (ps : List (List UInt8)) (k : Nat) (x : List UInt8) : Bool := (ps.take k).contains x
def leftTo (ps : List (List UInt8)) (k : Nat) (x : List UInt8) : Bool := ps.contains x && !(ps.take k).contains x
theorem mem_take {ps : List (List UInt8)} {k : Nat} (h : k < ps.length) (y : List UInt8) : (ps.take (k + 1)).contains y = ((ps.take k).contains y || y == ps[k]) := by
  rw [List.take_succ_eq_append_getElem h, List.contains_eq_any_beq, List.any_append, ← List.contains_eq_any_beq]
  simp only [List.any_cons, List.any_nil, Bool.or_false]
theorem in_step {ps : List (List UInt8)} {k : Nat} (h : k < ps.length) : inTo ps (k + 1) = fun y => if y = ps[k] then true else inTo ps k y := by
  funext y
  unfold inTo
  rw [mem_take h]
  by_cases e : y = ps[k]
  · rw [if_pos e, beq_iff_eq.2 e, Bool.or_true]
  · rw [if_neg e, beq_eq_false_iff_ne.2 e, Bool.or_false]
theorem left_step {ps : List (List UInt8)} {k : Nat} (h : k < ps.length) : leftTo ps (k + 1) = fun y => if y = ps[k] then false else leftTo ps k y := by
  funext y
  unfold leftTo
  rw [mem_take h]
  by_cases e : y = ps[k]
  · rw [if_pos e, beq_iff_eq.2 e, Bool.or_true, Bool.not_true, Bool.and_false]
  · rw [if_neg e, beq_eq_false_iff_ne.2 e, Bool.or_false]
theorem left_start (ps : List (List UInt8)) : inTo ps ps.length = leftTo ps 0 := by
  funext y
  simp [inTo, leftTo]
theorem left_at {ps : List (List UInt8)} {k : Nat} (h : k < ps.length) : leftTo ps k ps[k] = newAt ps k := by
  unfold leftTo newAt
  rw [List.getD_eq_getElem?_getD, List.getElem?_eq_getElem h]
  simp
def DiffRel1 (w : World) (M : Nat) (ps : List (List UInt8)) (i : Value) (wr : World) : Prop := ∃ k : Nat, k ≤ ps.length ∧ i = .int .i64 k ∧ Awaits wr M k (inTo ps k) ∧ Below w.heap.size w wr
def DiffRel2 (w : World) (M N : Nat) (ps : List (List UInt8)) (i : Value) (wr : World) : Prop := ∃ k : Nat, k ≤ ps.length ∧ i = .int .i64 k ∧ Awaits wr M N (leftTo ps k) ∧ (∀ j, j < k → newAt ps j = true) ∧ Below w.heap.size w wr
set_option maxHeartbeats 2000000 in
set_option maxRecDepth 100000 in
theorem allDifferent_any (v : Value) (B : Nat) (ps : List (List UInt8)) (w : World) (hv : RowT w B v ps) (hl : ps.length ≤ 1000) (hm : ∀ x ∈ ps, x.length ≤ 1000) : Calls Tryd.prog 86 #[v] w fun e w' => e = .returned (.bool (diffL ps)) ∧ Below w.heap.size w w' := by
  obtain ⟨a, cap, rfl, hx⟩ := hv
  have HX := Lib.hid hx
  have HM := Lib.hid hm
  clear hx hm
  have hmm := @run_makeMap Tryd.prog
  have H0 : Hid (Awaits (w.alloc (.map #[] 0)) w.heap.size 0 (inTo ps 0)) := Lib.hid ⟨.map [], World.ownsMap_made w Tryd.prog 9 (plainElem Tryd.prog 4), ⟨[], rfl⟩, fun x => by simp [inTo, DataW.atKey]⟩
  go_enter Tryd.func86, Tryd.ntmps86
  go_wp2
  clear hmm
  go_loopw [11] (fun i wr => DiffRel1 w w.heap.size ps i wr) (fun i _ => ps.length - (intOf i).toNat)
  case atStart => exact ⟨0, Nat.zero_le _, rfl, H0.out, (Below.refl _ _).alloc (Nat.le_refl _) _⟩
  case round =>
    obtain ⟨k, hk, rfl, ⟨D, hown, hD, hS⟩, hb⟩ := hrel
    have HD := Lib.hid hD
    have HS := Lib.hid hS
    have HB := Lib.hid hb
    have HO := Lib.hid hown
    clear hD hS hb hown
    by_cases hlt : k < ps.length
    · obtain ⟨g, rfl, _, hg2, _, hc⟩ := HX.out (by omega)
      obtain ⟨u, hu⟩ : ∃ u : ByteArray, strV ps[k] = .string u := ⟨_, rfl⟩
      have HU : Hid (u.data.toList = ps[k]) := Lib.hid (by
        have := Value.string.inj hu
        rw [← this])
      have c1 : wr.cell? ⟨g, k, none⟩ = some (.string u) := by rw [← hu]; exact (HB.out.cell (p := ⟨g, k, none⟩) hg2).trans (hc k hlt)
      have hus : u.size ≤ maxLen := by
        have h1 := HM.out _ (List.getElem_mem hlt)
        rw [← HU.out] at h1
        simp at h1
        unfold maxLen
        omega
      have hkey := setTxt u hus
      have s1 : (k : Int) < ps.length := by omega
      clear hc hu
      go_wp2_with (first | (at_mapUpdate; refine wpList_mapUpdate_own _ rfl _ _ _ 105 rfl 9 4 setLaw Tryd.underlying105 _ w.heap.size k _ rfl HO.out (by unfold maxLen; omega) _ _ _ rfl rfl hkey _ [] (plainElem_bool Tryd.underlying4 true) ?_; intro w1 hown1 hgrow1) | go_in)
      go_roundw
      case rel =>
        refine ⟨k + 1, by omega, by go_num, ?_, HB.out.grown hgrow1 HB.out.size (fun j hj => by cases hj; exact Nat.le_refl _)⟩
        have h := Awaits.put HD.out HS.out hown1
        rw [HU.out, ← in_step hlt] at h
        exact h
      case measure => simp [intOf]; omega
    · obtain rfl : k = ps.length := by omega
      go_wp2
      go_loopw [20] (fun i wr => DiffRel2 w w.heap.size ps.length ps i wr) (fun i _ => ps.length - (intOf i).toNat)
      case atStart => exact ⟨0, Nat.zero_le _, rfl, ⟨D, HO.out, HD.out, fun x => by rw [HS.out, left_start]⟩, fun j hj => by omega, HB.out⟩
      case round =>
        obtain ⟨k, hk, rfl, ⟨D, hown, hD, hS⟩, hnew, hb⟩ := hrel
        have HD := Lib.hid hD
        have HS := Lib.hid hS
        have HB := Lib.hid hb
        have HO := Lib.hid hown
        have HN := Lib.hid hnew
        clear hD hS hb hown hnew
        by_cases hlt : k < ps.length
        · obtain ⟨g, rfl, _, hg2, _, hc⟩ := HX.out (by omega)
          obtain ⟨u, hu⟩ : ∃ u : ByteArray, strV ps[k] = .string u := ⟨_, rfl⟩
          have HU : Hid (u.data.toList = ps[k]) := Lib.hid (by
            have := Value.string.inj hu
            rw [← this])
          have c1 : wr.cell? ⟨g, k, none⟩ = some (.string u) := by rw [← hu]; exact (HB.out.cell (p := ⟨g, k, none⟩) hg2).trans (hc k hlt)
          have hus : u.size ≤ maxLen := by
            have h1 := HM.out _ (List.getElem_mem hlt)
            rw [← HU.out] at h1
            simp at h1
            unfold maxLen
            omega
          have hkey := setTxt u hus
          have HAT : Hid (D.atKey (.string u.data.toList) (.lit (.bool false)) = .lit (.bool (newAt ps k))) := Lib.hid (by rw [HS.out, HU.out, left_at hlt])
          have s1 : (k : Int) < ps.length := by omega
          clear hc hu
          cases hn : newAt ps k with
          | false =>
            rw [hn] at HAT
            have HE := Lib.hid (diff_bad hlt hn)
            clear hn
            go_wp2_with (first | (at_lookup; refine wpList_lookup_own_bool _ rfl _ _ 105 rfl 9 4 setLaw Tryd.underlying105 Tryd.underlying4 (zeroBool _) w.heap.size _ _ rfl HO.out _ _ rfl hkey _ HAT.out ?_) | go_in)
            go_ret
            exact ⟨bool_end HE.out.symm, HB.out⟩
          | true =>
            rw [hn] at HAT
            have HN2 := Lib.hid hn
            clear hn
            go_wp2_with (first | (at_lookup; refine wpList_lookup_own_bool _ rfl _ _ 105 rfl 9 4 setLaw Tryd.underlying105 Tryd.underlying4 (zeroBool _) w.heap.size _ _ rfl HO.out _ _ rfl hkey _ HAT.out ?_) | (at_delete; refine wpList_delete_own _ rfl _ _ 105 9 rfl 4 setLaw Tryd.underlying105 _ w.heap.size _ _ rfl HO.out _ _ rfl hkey ?_; intro w1 hown1 hturn1) | go_in)
            go_roundw
            case rel =>
              refine ⟨k + 1, by omega, by go_num, ?_, fun j hj => ?_, ?_⟩
              · have h := Awaits.del HD.out HS.out hown1
                rw [HU.out, ← left_step hlt] at h
                exact h
              · by_cases e : j = k
                · subst e
                  exact HN2.out
                · exact HN.out j (by omega)
              · exact HB.out.grown hturn1.grown HB.out.size (fun j hj => by cases hj; exact Nat.le_refl _)
            case measure => simp [intOf]; omega
        · have HE := Lib.hid (diff_all HN.out (by omega : ps.length ≤ k))
          go_wp2
          go_ret
          exact ⟨bool_end HE.out.symm, HB.out⟩
end Go.Proofs.YtcaabnnkjnleeaaDoor
