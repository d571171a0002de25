/- HostOK of the program and of the model: what they answer; the law's walk. No condition of its own. -/
import Derived.Test.YtcaabnnkjnleeaaDoorClasses
import Derived.Test.YtcaabnnkjnleeaaDoorHostMath
import Derived.Deep.LoopGhost
namespace Go.Proofs.YtcaabnnkjnleeaaDoor
open Go.ChangeShapes Go.WideShapes Go.ChangeAt Go.WideMaps Go.WideElems Go.RowKit

def letB (c : Nat) : Bool := cls c == 7 || cls c == 4 || cls c == 5 || ((c : Int) == 45)
theorem in_label (b : UInt8) : labelB b = letB b.toNat := by
  have h : ∀ n : Fin 256, labelB (UInt8.ofNat n) = letB n := by decide +kernel
  have := h ⟨b.toNat, b.toNat_lt⟩
  simpa using this
theorem in_high {c : Nat} (h : 128 ≤ c) : letB c = false := by
  simp only [letB, cls_high h]
  simp
  omega
theorem inLabel_any (c : Nat) (w : World) (hc : c ≤ 1114111) (hT : TabAt w) : Calls Tryd.prog 92 #[.int .i32 c] w fun e w' => e = .returned (.bool (letB c)) ∧ w = w' := by
  have HT := Lib.hid hT
  clear hT
  go_enter Tryd.func92, Tryd.ntmps92
  go_wp2_with (go_at_call 94; refine (classOf_any _ _ hc HT.out).mono ?_; rintro e w' ⟨rfl, rfl⟩)
  all_goals go_ret
  all_goals refine ⟨bool_end ?_, rfl⟩
  all_goals simp [letB, *]
theorem upto_take {u : ByteArray} {p : UInt8 → Bool} {pos : Nat} (h : Upto u p pos) (hp : pos ≤ u.size) : ∀ b ∈ u.data.toList.take pos, p b = true := by
  intro b hb
  obtain ⟨j, hj, rfl⟩ := List.mem_iff_getElem.1 hb
  rw [List.length_take] at hj
  have hj2 : j < u.size := by omega
  rw [List.getElem_take]
  exact h j hj2 (by omega)
theorem while_split {u : ByteArray} {p : UInt8 → Bool} {pos : Nat} (h : Upto u p pos) (hp : pos < u.size) (hb : p (u[pos]'hp) = false) :
    u.data.toList.takeWhile p = u.data.toList.take pos ∧ u.data.toList.dropWhile p = u[pos] :: u.data.toList.drop (pos + 1) := by
  have hl : pos < u.data.toList.length := by simpa using hp
  have hall := upto_take h (by omega)
  have e : u.data.toList = u.data.toList.take pos ++ (u[pos] :: u.data.toList.drop (pos + 1)) := by
    have e1 := List.take_append_drop pos u.data.toList
    rw [List.drop_eq_getElem_cons hl] at e1
    exact e1.symm
  constructor
  · conv => lhs; rw [e]
    rw [List.takeWhile_append_of_pos hall, List.takeWhile_cons, if_neg (by simp [hb]), List.append_nil]
  · conv => lhs; rw [e]
    rw [List.dropWhile_append_of_pos hall, List.dropWhile_cons, if_neg (by simp [hb])]
theorem host_point {u : ByteArray} {pos : Nat} (n : Nat) (h : Upto u labelB pos) (hp : pos < u.size) (hb : u[pos]'hp = 46) (h0 : 0 < pos) : hostN (n + 1) u.data.toList = hostN n (u.extract (pos + 1) u.size).data.toList := by
  obtain ⟨e1, e2⟩ := while_split h hp (by rw [hb]; exact label_point)
  rw [hostN, e2, e1, hb]
  have hne : (u.data.toList.take pos).isEmpty = false := by
    cases hh : u.data.toList.take pos with
    | nil =>
      have := congrArg List.length hh
      rw [List.length_take, List.length_nil] at this
      have hz : u.data.toList.length = u.size := by simp
      omega
    | cons _ _ => rfl
  have e3 : (u.extract (pos + 1) u.size).data.toList = u.data.toList.drop (pos + 1) := by
    rw [Lib.extract_data, List.take_of_length_le (by simp)]
  rw [e3]
  simp [hne]
theorem host_bad {u : ByteArray} {pos : Nat} (n : Nat) (h : Upto u labelB pos) (hp : pos < u.size) (hb : labelB (u[pos]'hp) = false) (h0 : u[pos]'hp ≠ 46 ∨ pos = 0) : hostN (n + 1) u.data.toList = false := by
  obtain ⟨e1, e2⟩ := while_split h hp hb
  rw [hostN, e2, e1]
  rcases h0 with h0 | rfl
  · simp [h0]
  · simp
theorem host_all {u : ByteArray} {pos : Nat} (n : Nat) (h : Upto u labelB pos) (hp : u.size ≤ pos) : hostN (n + 1) u.data.toList = !u.toList.isEmpty := by
  have hall : ∀ b ∈ u.data.toList, labelB b = true := by
    intro b hb
    obtain ⟨j, hj, rfl⟩ := List.mem_iff_getElem.1 hb
    have hj2 : j < u.size := by simpa using hj
    exact h j hj2 (by omega)
  have e : u.data.toList.dropWhile labelB = [] := by
    have := List.dropWhile_append_of_pos (l₂ := []) hall
    simpa using this
  rw [hostN, e, ByteArray.toList_eq]
set_option maxHeartbeats 1000000 in
set_option maxRecDepth 100000 in
theorem implHostOK (s : ByteArray) (w : World) (hs : s.size ≤ maxLen) (hT : TabAt w) : Calls Tryd.prog 66 #[.string s] w fun e w' => e = .returned (.bool (hostB s)) ∧ Below w.heap.size w w' := by
  unfold maxLen at hs
  have HT := Lib.hid hT
  clear hT
  by_cases hl : s.size ≤ 40
  · have HH : Hid (hostB s = hostN 6 s.data.toList) := by show _ = _; simp [hostB, hl]
    go_enter Tryd.func66, Tryd.ntmps66
    go_wp2
    go_step3
    go_wp2
    go_step3
    go_wp2
    go_loopg [3, 10] 6 (fun g v3 v10 wx => ∃ (u : ByteArray) (k : Nat), k + g = 6 ∧ v10 = .int .i64 k ∧ v3 = .string u ∧ Hid (hostB s = hostN g u.data.toList) ∧ u.size ≤ 40 ∧ Below w.heap.size w wx)
    case atStart => exact ⟨s, 0, by omega, rfl, rfl, HH, hl, Below.refl _ _⟩
    case round =>
      obtain ⟨u, k, hkg, rfl, rfl, hh, hu, hb⟩ := hrel
      have HB := Lib.hid hb
      clear hb
      cases gk with
      | zero =>
        obtain rfl : k = 6 := by omega
        go_wp2
        go_ret
        exact ⟨bool_end (by rw [hh.out]; rfl), HB.out⟩
      | succ g =>
        have hk6 : (k : Int) < 6 := by omega
        go_wp2
        obtain ⟨wo, hwo⟩ : ∃ wo : World, wo = wr := ⟨_, rfl⟩
        subst hwo
        go_loopg [3] u.size (fun g2 v3 wx => ∃ pos : Nat, pos + g2 = u.size ∧ v3 = .string u ∧ wx = wo.iter u pos ∧ Upto u labelB pos)
        case atStart => exact ⟨0, by omega, rfl, rfl, upto_zero _ _⟩
        case round =>
          obtain ⟨pos, hpg, rfl, rfl, hup⟩ := hrel
          have HU := Lib.hid hup
          clear hup
          by_cases hp : pos < u.size
          · have hnx : ∀ ty, (Instr.next (.pointer (some ⟨wo.heap.size, 0, none⟩)) true ty).run Tryd.prog (wo.iter u pos) = _ := fun ty => run_next_any wo u pos ty hp
            have hwd := width_pos u pos hp
            have hmx := decode_max u pos
            have hbo : Hid (∀ q, Below w.heap.size w (wo.iter u q)) := fun q => HB.out.alloc HB.out.size _
            have hTo : Hid (∀ q, TabAt (wo.iter u q)) := fun q => HT.out.below (hbo.out q)
            cases f46 : (((Utf8.decode u pos).1 : Int) == 46) with
            | true =>
              have e46 : u[pos]'hp = 46 := by
                have h46 : (Utf8.decode u pos).1 = 46 := by have := eq_of_beq f46; omega
                rcases rune_cases u pos hp with ⟨_, h⟩ | ⟨_, h⟩
                · apply UInt8.toNat_inj.1
                  show (u[pos]'hp).toNat = 46
                  omega
                · omega
              have HE := Lib.hid e46
              clear e46
              by_cases h0 : 0 < pos
              · have s1 : (pos : Int) + 1 ≤ u.size := by omega
                have HX : Hid (hostB s = hostN g (u.extract (pos + 1) u.size).data.toList) := by
                  show _ = _
                  rw [hh.out, host_point g HU.out hp HE.out h0]
                clear hh
                go_wp2
                go_roundg g
                case measure => omega
                case rel => exact ⟨u.extract (pos + 1) u.size, k + 1, by omega, by go_num, rfl, HX, by simp; omega, hbo.out _⟩
              · obtain rfl : pos = 0 := by omega
                have HI : Hid (letB (Utf8.decode u 0).1 = false) := by
                  show _ = false
                  have := eq_of_beq f46
                  have e : (Utf8.decode u 0).1 = 46 := by omega
                  rw [e]
                  decide
                have HX : Hid (hostB s = false) := by
                  show _ = _
                  rw [hh.out, host_bad g HU.out hp (by rw [HE.out]; exact label_point) (.inr rfl)]
                clear hh
                go_wp2_with (go_at_call 92; refine (inLabel_any _ _ hmx (hTo.out _)).mono ?_; rintro e w' ⟨rfl, rfl⟩; rw [HI.out])
                rw [Exit.noGoto_ret]
                go_ret
                exact ⟨bool_end HX.out.symm, hbo.out _⟩
            | false =>
              cases fi : letB (Utf8.decode u pos).1 with
              | true =>
                have HI := Lib.hid fi
                have ha : (u[pos]'hp).toNat < 128 := by
                  rcases rune_cases u pos hp with ⟨h, _⟩ | ⟨_, h⟩
                  · exact h
                  · rw [in_high h] at fi; cases fi
                have hlab : labelB (u[pos]'hp) = true := by
                  rw [in_label]
                  rw [decode_ascii u pos hp ha] at fi
                  exact fi
                have HL := Lib.hid hlab
                have HD := Lib.hid (decode_ascii u pos hp ha)
                clear fi hlab ha
                go_wp2_with (go_at_call 92; refine (inLabel_any _ _ hmx (hTo.out _)).mono ?_; rintro e w' ⟨rfl, rfl⟩; rw [HI.out])
                go_roundg (u.size - (pos + 1))
                case measure => omega
                case rel => exact ⟨pos + 1, by omega, rfl, by rw [HD.out], upto_succ HU.out hp HL.out⟩
              | false =>
                have HI := Lib.hid fi
                have hlab : labelB (u[pos]'hp) = false := by
                  rcases rune_cases u pos hp with ⟨_, h⟩ | ⟨h, _⟩
                  · rw [in_label, ← h]
                    exact fi
                  · rw [in_label]
                    exact in_high h
                have hne : u[pos]'hp ≠ 46 := by
                  intro e
                  rcases rune_cases u pos hp with ⟨_, h⟩ | ⟨h, _⟩
                  · rw [h, e] at f46
                    exact absurd f46 (by decide)
                  · rw [e] at h
                    exact absurd h (by decide)
                have HX : Hid (hostB s = false) := by
                  show _ = _
                  rw [hh.out, host_bad g HU.out hp hlab (.inl hne)]
                clear hh fi hlab hne
                go_wp2_with (go_at_call 92; refine (inLabel_any _ _ hmx (hTo.out _)).mono ?_; rintro e w' ⟨rfl, rfl⟩; rw [HI.out])
                rw [Exit.noGoto_ret]
                go_ret
                exact ⟨bool_end HX.out.symm, hbo.out _⟩
          · have hnx : ∀ ty, (Instr.next (.pointer (some ⟨wo.heap.size, 0, none⟩)) true ty).run Tryd.prog (wo.iter u pos) = _ := fun ty => run_next_end wo u pos ty hp
            go_wp2
            rw [Exit.noGoto_ret]
            go_ret
            exact ⟨bool_end (by rw [hh.out, host_all g HU.out (by omega)]), HB.out.alloc HB.out.size _⟩
  · have HH : Hid (hostB s = false) := by show _ = _; simp [hostB, hl]
    go_enter Tryd.func66, Tryd.ntmps66
    go_wp2
    go_step3
    go_wp2
    rw [Exit.noGoto_ret]
    go_ret
    exact ⟨bool_end HH.out.symm, Below.refl _ _⟩
end Go.Proofs.YtcaabnnkjnleeaaDoor
