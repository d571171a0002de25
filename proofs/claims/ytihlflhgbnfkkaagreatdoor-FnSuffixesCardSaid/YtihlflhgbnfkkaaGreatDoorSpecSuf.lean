/- Suffixes and parties in the model: what its functions answer. No condition of its own. -/
import Derived.Test.YtihlflhgbnfkkaaGreatDoorSuffix
namespace Go.Proofs.YtihlflhgbnfkkaaGreatDoor
open Go.ChangeShapes Go.WideShapes Go.ChangeAt Go.WideMaps Go.WideElems Go.RowKit

def endsB (h d : ByteArray) : Bool := decide (h = d) || belowB h d
set_option maxHeartbeats 1000000 in
set_option maxRecDepth 100000 in
theorem ends_any (h d : ByteArray) (w : World) (hh : h.size ≤ 1048576) (hd : d.size ≤ 1048576) : Calls Tryz.prog 174 #[.string h, .string d] w fun e w' => e = .returned (.bool (endsB h d)) ∧ w = w' := by
  by_cases he : h = d
  · have HE : Hid (endsB h d = true) := Lib.hid (by simp [endsB, he])
    have f := seq_true he
    clear he
    go_enter Tryz.func174, Tryz.ntmps174
    go_wp2
    go_ret
    exact ⟨bool_end HE.out.symm, rfl⟩
  have f := seq_false he
  by_cases hl : h.size ≤ d.size
  · have HE : Hid (endsB h d = false) := Lib.hid (by simp [endsB, he, below_short hl])
    clear he
    go_enter Tryz.func174, Tryz.ntmps174
    go_wp2
    go_ret
    exact ⟨bool_end HE.out.symm, rfl⟩
  obtain ⟨n, hn⟩ : ∃ n, h.size = d.size + n := ⟨h.size - d.size, by omega⟩
  have h0 : 0 < n := by omega
  have HM : Hid (endsB h d = belowB h d) := Lib.hid (by simp [endsB, he])
  have hn2 : n - 1 < h.size := by omega
  have HB := Lib.hid (below_at h0 hn hn2)
  have hsub : (h.size : Int) - (d.size : Int) = (n : Int) := by omega
  have hn1 : n ≤ h.size := by omega
  clear he hn hl
  cases b1 : ((h.extract n h.size).toList == d.toList) with
  | false =>
    have HE : Hid (endsB h d = false) := Lib.hid (by rw [HM.out, HB.out, b1]; rfl)
    go_enter Tryz.func174, Tryz.ntmps174
    go_wp2
    go_ret
    exact ⟨bool_end HE.out.symm, rfl⟩
  | true =>
    have HE : Hid (endsB h d = (((h[n - 1]'hn2).toNat : Int) == 46)) := Lib.hid (by rw [HM.out, HB.out, b1]; rfl)
    go_enter Tryz.func174, Tryz.ntmps174
    go_wp2
    go_ret
    exact ⟨bool_end HE.out.symm, rfl⟩
/-- What the model tells of a rule and a host. -/
def labI (t host : ByteArray) : Int := if appB host (bareB t) (wildB t) then (if wildB t then (labN (bareB t).data.toList : Int) + 1 else labN (bareB t).data.toList) else 0
theorem star_at {t : ByteArray} (hr : ruleB t = true) (h : 0 < t.size) : (((t[0]'h).toNat : Int) == 42) = wildB t := by
  cases hw : wildB t with
  | true =>
    obtain ⟨l, hl⟩ := List.isPrefixOf_iff_prefix.1 hw
    have e : t[0]'h = 42 := by
      have h1 : t.data.toList[0]'(by simpa using h) = 42 := by simp [← hl]
      exact h1
    rw [e]
    rfl
  | false =>
    rw [beq_eq_false_iff_ne]
    intro e
    have e2 : t[0]'h = 42 := UInt8.toNat_inj.1 (show (t[0]'h).toNat = 42 by omega)
    have hx : excL t.data.toList = false := by
      have := exc_at h
      rw [e2] at this
      exact this
    have hb : bareL t.data.toList = t.data.toList := by
      rw [bareL, if_neg (by rw [show wildL t.data.toList = false from hw]; exact Bool.false_ne_true), if_neg (by rw [hx]; exact Bool.false_ne_true)]
    have hh : hostB t = true := by
      have := hr
      unfold ruleB ruleL at this
      rw [hb, tOf_of] at this
      exact this
    have hm : (42 : UInt8) ∈ t.data.toList := by
      rw [← e2]
      exact List.getElem_mem (l := t.data.toList) (n := 0) (by simpa using h)
    rcases host_bytes hh 42 hm with h1 | h1
    · revert h1; decide
    · revert h1; decide
theorem ends_app {host r : ByteArray} {wl : Bool} : appB host r wl = (endsB host r && !(wl && decide (host = r))) := by
  unfold appB endsB
  by_cases h : host = r
  · subst h
    rw [below_short (Nat.le_refl _), decide_eq_true rfl]
    cases wl <;> rfl
  · rw [decide_eq_false h]
    cases wl <;> simp
set_option maxHeartbeats 1000000 in
set_option maxRecDepth 100000 in
theorem labels_of (t host : ByteArray) (w : World) (hr : ruleB t = true) (hh : host.size ≤ 40) : Calls Tryz.prog 127 #[.string t, .string host] w fun e w' => e = .returned (.int .i64 (labI t host)) ∧ Below w.heap.size w w' := by
  have hz := rule_size hr
  have hsz : t.data.toList.length = t.size := by simp
  rw [hsz] at hz
  have hb40 : (bareB t).size ≤ 40 := (host_size (s := bareB t) hr).2
  have h0 : 0 < t.size := by omega
  have hst := star_at hr h0
  have HBS := Lib.hid (bareS_is (rule_wild hr))
  have hne : (((t[0]'h0).toNat : Int) != 42) = !wildB t := by rw [bne, hst]
  have hlen := cut_len_le hb40
  have hpos : 1 ≤ (cutL 46 (bareB t).data.toList).length := cutL_pos _ _
  have HL : Hid ((cutL 46 (bareB t).data.toList).length = labN (bareB t).data.toList) := Lib.hid rfl
  have HEA := Lib.hid (ends_app (host := host) (r := bareB t) (wl := wildB t))
  have hst1 : t.size ≤ 1048576 := by omega
  clear hr hst hsz
  go_enter Tryz.func127, Tryz.ntmps127
  go_wp2_with fail
  refine (specBare t _ hst1).mono ?_
  rintro e w' ⟨rfl, rfl⟩
  rw [HBS.out]
  go_wp2_with fail
  refine (cut_any (bareB t) 46 _ (by omega)).mono ?_
  rintro e w1 ⟨v, rfl, hown, hb⟩
  obtain ⟨g, cap, rfl, _⟩ := own_cells hown hpos
  have HB := Lib.hid hb
  clear hb hown
  rw [HL.out] at hlen ⊢
  go_wp2_with fail
  refine (ends_any host (bareB t) _ (by omega) (by omega)).mono ?_
  rintro e w2 ⟨rfl, rfl⟩
  cases he : endsB host (bareB t) with
  | false =>
    have HE : Hid (labI t host = 0) := Lib.hid (by rw [labI, HEA.out, he, Bool.false_and, if_neg Bool.false_ne_true])
    go_wp2_with fail
    go_ret
    exact ⟨by rw [HE.out]; rfl, HB.out⟩
  | true =>
    have HEN := Lib.hid he
    clear he
    cases hw : wildB t with
    | false =>
      have HE : Hid (labI t host = labN (bareB t).data.toList) := Lib.hid (by rw [labI, HEA.out, HEN.out, hw]; rfl)
      rw [hw] at hne
      clear hw
      go_wp2_with fail
      go_ret
      exact ⟨by rw [HE.out]; rfl, HB.out⟩
    | true =>
      rw [hw] at hne
      cases hq : (host.toList == (bareB t).toList) with
      | true =>
        have HE : Hid (labI t host = 0) := Lib.hid (by rw [labI, HEA.out, HEN.out, hw, decide_eq_true (seq_of hq)]; rfl)
        clear hw
        go_wp2_with fail
        go_ret
        exact ⟨by rw [HE.out]; rfl, HB.out⟩
      | false =>
        have HE : Hid (labI t host = (labN (bareB t).data.toList : Int) + 1) := Lib.hid (by rw [labI, HEA.out, HEN.out, hw, decide_eq_false (sne_of hq)]; rfl)
        clear hw
        go_wp2_with fail
        go_ret
        exact ⟨by rw [HE.out]; rfl, HB.out⟩
end Go.Proofs.YtihlflhgbnfkkaaGreatDoor
