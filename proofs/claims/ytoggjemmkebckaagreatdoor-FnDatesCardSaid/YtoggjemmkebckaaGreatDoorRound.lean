/- A valid date is read back from its text: tokens of the text, and what each becomes. No condition of its own. -/
import Derived.Test.YtoggjemmkebckaaGreatDoorReadDate
import Derived.Test.YtoggjemmkebckaaGreatDoorSpecText
namespace Go.Proofs.YtoggjemmkebckaaGreatDoor
open Go.ChangeShapes Go.WideShapes Go.ChangeAt Go.WideMaps Go.WideElems Go.RowKit

theorem tok_sep {u r : List UInt8} {b : UInt8} (hu : u ≠ []) (h : ∀ x ∈ u, delimB x = false) (hb : delimB b = true) : tokL (u ++ b :: r) = u :: tokL r := by
  rw [tokL_run hu h (fun x hx => by simp at hx; subst hx; exact hb), tokL_skip hb]
theorem tok_last {u : List UInt8} (hu : u ≠ []) (h : ∀ x ∈ u, delimB x = false) : tokL u = [u] := by
  have := tokL_run (r := []) hu h (fun x hx => by cases hx)
  rwa [List.append_nil] at this
theorem two_facts : ∀ k : Fin 100, (∀ x ∈ twoL (k.val : Nat), delimB x = false) ∧ timeL (twoL (k.val : Nat)) = none ∧ leadL 1 2 (twoL (k.val : Nat)) = some (((k.val : Nat) : Int), []) := by decide +kernel
theorem day_facts : ∀ k : Fin 7, (∀ x ∈ (dnam (k.val : Nat)).data.toList, delimB x = false) ∧ timeL (dnam (k.val : Nat)).data.toList = none ∧ leadL 1 2 (dnam (k.val : Nat)).data.toList = none ∧ leadL 2 4 (dnam (k.val : Nat)).data.toList = none ∧ monL (dnam (k.val : Nat)).data.toList = 0 ∧ (dnam (k.val : Nat)).data.toList ≠ [] := by decide +kernel
theorem mo_facts : ∀ k : Fin 12, (∀ x ∈ (mnam ((k.val + 1 : Nat))).data.toList, delimB x = false) ∧ timeL (mnam ((k.val + 1 : Nat))).data.toList = none ∧ monL (mnam ((k.val + 1 : Nat))).data.toList = k.val + 1 ∧ (mnam ((k.val + 1 : Nat))).data.toList ≠ [] := by decide +kernel
theorem year_digits {k : Nat} (h1 : 1000 ≤ k) (h2 : k ≤ 9999) : Lib.itoa k = [UInt8.ofNat (48 + k / 1000), UInt8.ofNat (48 + k / 100 % 10), UInt8.ofNat (48 + k / 10 % 10), UInt8.ofNat (48 + k % 10)] := by
  unfold Lib.itoa
  rw [if_neg (by omega)]
  simp only [Int.toNat_natCast]
  rw [Lib.decDigits, dif_neg (by omega), Lib.decDigits, dif_neg (by omega), Lib.decDigits_two (by omega) (by omega)]
  simp only [List.cons_append, List.nil_append, Nat.div_div_eq_div_mul]
theorem dig_byte (c : Nat) (h : c ≤ 9) : (UInt8.ofNat (48 + c)).toNat = 48 + c := by
  simp
  omega
theorem dig_of (c : Nat) (h : c ≤ 9) : digB (UInt8.ofNat (48 + c)) = true := (dig_iff _).2 (by rw [dig_byte c h]; omega)
theorem dig_plain {b : UInt8} (h : digB b = true) : delimB b = false := by
  have := (dig_iff b).1 h
  simp only [delimB, decide_eq_false_iff_not]
  omega
theorem year_facts {y : Int} (h1 : 1601 ≤ y) (h2 : y ≤ 9999) : (∀ x ∈ Lib.itoa y, delimB x = false) ∧ leadL 1 2 (Lib.itoa y) = none ∧ leadL 2 4 (Lib.itoa y) = some (y, []) ∧ Lib.itoa y ≠ [] := by
  obtain ⟨k, rfl⟩ : ∃ k : Nat, y = k := ⟨y.toNat, by omega⟩
  have hd := year_digits (k := k) (by omega) (by omega)
  have ha : ∀ x ∈ Lib.itoa k, digB x = true := by
    rw [hd]
    intro x hx
    simp only [List.mem_cons, List.not_mem_nil, or_false] at hx
    rcases hx with rfl | rfl | rfl | rfl <;> exact dig_of _ (by omega)
  have hn : digN (Lib.itoa k) = 4 := by
    have := digN_of (u := Lib.itoa k) (r := []) ha (fun b hb => by cases hb)
    rw [List.append_nil] at this
    rw [this, hd]
    rfl
  refine ⟨fun x hx => dig_plain (ha x hx), ?_, ?_, by rw [hd]; simp⟩
  · unfold leadL
    rw [hn]
    rfl
  · unfold leadL
    rw [hn, if_pos (by decide)]
    have e1 : (Lib.itoa (k : Int)).take 4 = Lib.itoa k := by rw [hd]; rfl
    have e2 : (Lib.itoa (k : Int)).drop 4 = [] := by rw [hd]; rfl
    rw [e1, e2, hd]
    simp only [val, List.foldl_cons, List.foldl_nil]
    rw [dig_byte _ (by omega), dig_byte _ (by omega), dig_byte _ (by omega), dig_byte _ (by omega)]
    congr 2
    omega
def clockL (h n s : Int) : List UInt8 := twoL h ++ 58 :: (twoL n ++ 58 :: twoL s)
theorem txt_form (D M : List UInt8) (y d h n s : Int) : txtL D M y d h n s = D ++ 44 :: 32 :: (twoL d ++ 32 :: (M ++ 32 :: (Lib.itoa y ++ 32 :: (clockL h n s ++ 32 :: [71, 77, 84])))) := by
  simp [txtL, clockL]
theorem two_at {d : Int} (h0 : 0 ≤ d) (h1 : d ≤ 99) : (∀ x ∈ twoL d, delimB x = false) ∧ timeL (twoL d) = none ∧ leadL 1 2 (twoL d) = some (d, []) := by
  obtain ⟨k, rfl⟩ : ∃ k : Nat, d = k := ⟨d.toNat, by omega⟩
  exact two_facts ⟨k, by omega⟩
theorem clock_facts {h n s : Int} (a1 : 0 ≤ h) (a2 : h ≤ 23) (b1 : 0 ≤ n) (b2 : n ≤ 59) (c1 : 0 ≤ s) (c2 : s ≤ 59) : (∀ x ∈ clockL h n s, delimB x = false) ∧ timeL (clockL h n s) = some (h, n, s) ∧ clockL h n s ≠ [] := by
  obtain ⟨f1, _, g1⟩ := two_at a1 (show h ≤ 99 by omega)
  obtain ⟨f2, _, g2⟩ := two_at b1 (show n ≤ 99 by omega)
  obtain ⟨f3, _, g3⟩ := two_at c1 (show s ≤ 99 by omega)
  refine ⟨?_, ?_, by simp [clockL]⟩
  · intro x hx
    have h58 : delimB 58 = false := by decide
    simp only [clockL, List.mem_append, List.mem_cons] at hx
    rcases hx with hx | rfl | hx | rfl | hx
    · exact f1 x hx
    · exact h58
    · exact f2 x hx
    · exact h58
    · exact f3 x hx
  · unfold clockL timeL
    rw [lead_colon, g1]
    simp only [Option.map_some, List.nil_append]
    rw [lead_colon, g2]
    simp only [Option.map_some, List.nil_append]
    rw [g3]
theorem read_text {y m d h n s : Int} (hok : okB ⟨y, m, d, h, n, s⟩ = true) {kk : Nat} (hk : kk < 7) : dateR (readL (txtL (dnam kk).data.toList (mnam m).data.toList y d h n s)) = some ⟨y, m, d, h, n, s⟩ := by
  obtain ⟨⟨hy1, hy2⟩, ⟨hm1, hm2⟩, ⟨hd1, hd2⟩, ⟨hh1, hh2⟩, ⟨hn1, hn2⟩, ⟨hs1, hs2⟩⟩ := (ok_iff _).1 hok
  have hd3 := (mdays_le y m).2
  simp only at hy1 hy2 hm1 hm2 hd1 hd2 hh1 hh2 hn1 hn2 hs1 hs2
  obtain ⟨mm, rfl⟩ : ∃ mm : Nat, m = ((mm + 1 : Nat) : Int) := ⟨(m - 1).toNat, by omega⟩
  obtain ⟨A1, A2, A3, A4, A5, A6⟩ := day_facts ⟨kk, hk⟩
  obtain ⟨B1, B2, B3⟩ := two_at (show 0 ≤ d by omega) (show d ≤ 99 by omega)
  obtain ⟨C1, C2, C3, C4⟩ := mo_facts ⟨mm, by omega⟩
  obtain ⟨D1, D2, D3, D4⟩ := year_facts hy1 hy2
  obtain ⟨E1, E2, E3⟩ := clock_facts hh1 hh2 hn1 hn2 hs1 hs2
  simp only at A1 A2 A3 A4 A5 A6 C1 C2 C3 C4
  have q1 : delimB 44 = true := by decide
  have q2 : delimB 32 = true := by decide
  have hG : tokL [71, 77, 84] = [[71, 77, 84]] := tok_last (by simp) (by decide)
  have hlist : tokL (txtL (dnam kk).data.toList (mnam ((mm + 1 : Nat) : Int)).data.toList y d h n s) = [(dnam kk).data.toList, twoL d, (mnam ((mm + 1 : Nat) : Int)).data.toList, Lib.itoa y, clockL h n s, [71, 77, 84]] := by
    rw [txt_form, tok_sep A6 A1 q1, tokL_skip q2, tok_sep (by simp [twoL]) B1 q2, tok_sep C4 C1 q2, tok_sep D4 D1 q2, tok_sep E3 E1 q2, hG]
  have D5 : timeL (Lib.itoa y) = none := by unfold timeL; rw [D2]
  unfold readL
  rw [hlist]
  simp only [List.foldl_cons, List.foldl_nil]
  have s1 : stepR rd0 (dnam kk).data.toList = rd0 := by simp [stepR, rd0, A2, dayL, A3, A5, yearL, A4]
  have s2 : stepR rd0 (twoL d) = ⟨none, some d, 0, none⟩ := by simp [stepR, rd0, B2, dayL, B3]
  have s3 : stepR ⟨none, some d, 0, none⟩ (mnam ((mm + 1 : Nat) : Int)).data.toList = ⟨none, some d, mm + 1, none⟩ := by simp only [stepR, C2, C3]; simp
  have s4 : stepR ⟨none, some d, mm + 1, none⟩ (Lib.itoa y) = ⟨none, some d, mm + 1, some y⟩ := by simp [stepR, D5, yearL, D3]
  have s5 : stepR ⟨none, some d, mm + 1, some y⟩ (clockL h n s) = ⟨some (h, n, s), some d, mm + 1, some y⟩ := by simp [stepR, E2]
  have s6 : stepR ⟨some (h, n, s), some d, mm + 1, some y⟩ [71, 77, 84] = ⟨some (h, n, s), some d, mm + 1, some y⟩ := by simp [stepR]
  rw [s1, s2, s3, s4, s5, s6]
  have hf : fullY y = y := by unfold fullY; rw [if_neg (by omega), if_neg (by omega)]
  unfold dateR
  simp only [hf]
  rw [if_pos hok]
end Go.Proofs.YtoggjemmkebckaaGreatDoor
