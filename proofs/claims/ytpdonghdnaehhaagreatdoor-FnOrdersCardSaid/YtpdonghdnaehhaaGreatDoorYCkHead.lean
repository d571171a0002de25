/- HeaderOf of the program and of the model; the law's walk. No condition of its own. -/
import Derived.Test.YtpdonghdnaehhaaGreatDoorYCkCode
import Derived.Test.YtpdonghdnaehhaaGreatDoorHeadMath
import Derived.Test.YtpdonghdnaehhaaGreatDoorBuild
import Derived.Test.YtpdonghdnaehhaaGreatDoorShelf2
import Derived.Stop.LaidErr
namespace Go.Proofs.YtpdonghdnaehhaaGreatDoor
open Go.ChangeShapes Go.WideShapes Go.ChangeAt Go.WideMaps Go.WideElems Go.RowKit

/-- The names and values of cookies. -/
def nvC (qs : List Ck) : List (List UInt8 × List UInt8) := qs.map fun q => (q.n.data.toList, q.v.data.toList)
/-- The header of the first k cookies. -/
def headT (qs : List Ck) (k : Nat) : ByteArray := ⟨(headL ((nvC qs).take k)).toArray⟩
theorem headT_data (qs : List Ck) (k : Nat) : (headT qs k).data.toList = headL ((nvC qs).take k) := by simp [headT]
theorem headT_next {qs : List Ck} {k : Nat} (h : k < qs.length) : (headT qs (k + 1)).data.toList = (headT qs k).data.toList ++ ((if 0 < k then [59, 32] else []) ++ partL qs[k].n.data.toList qs[k].v.data.toList) := by
  rw [headT_data, headT_data, headL_take (by simpa [nvC] using h)]
  simp [nvC]
theorem partL_size (n v : List UInt8) : (partL n v).length ≤ n.length + v.length + 1 := by
  unfold partL
  split <;> simp <;> omega
theorem headT_size (qs : List Ck) : ∀ k, k ≤ qs.length → (headT qs k).size ≤ 3 * k + wtL (qs.take k) := by
  intro k
  induction k with
  | zero => intro _; simp [headT, headL, rawL, ByteArray.size]
  | succ k ih =>
    intro hk
    have h := ih (by omega)
    have hl := congrArg List.length (headT_next (qs := qs) (show k < qs.length by omega))
    have hp := partL_size (qs[k]'(by omega)).n.data.toList (qs[k]'(by omega)).v.data.toList
    have ht := wtL_take (qs := qs) (show k < qs.length by omega)
    have hw : (qs[k]'(by omega)).n.size + (qs[k]'(by omega)).v.size ≤ wtC (qs[k]'(by omega)) := by unfold wtC; omega
    have e1 : ∀ s : ByteArray, s.data.toList.length = s.size := fun s => by simp
    rw [List.length_append, List.length_append, e1, e1] at hl
    rw [e1, e1] at hp
    have h2 : (if 0 < k then [59, 32] else ([] : List UInt8)).length ≤ 2 := by split <;> simp
    omega
theorem headT_all (qs : List Ck) : headT qs qs.length = ⟨(headL (nvC qs)).toArray⟩ := by
  rw [headT, List.take_of_length_le (by simp [nvC])]
def HdRel (w : World) (qs : List Ck) (t i : Value) (wr : World) : Prop := ∃ k : Nat, k ≤ qs.length ∧ i = .int .i64 k ∧ t = .string (headT qs k) ∧ Below w.heap.size w wr
theorem head_step (qs : List Ck) {k : Nat} (h : k < qs.length) (t : ByteArray) (ht : t.data.toList = (headT qs k).data.toList ++ ((if 0 < k then [59, 32] else []) ++ partL qs[k].n.data.toList qs[k].v.data.toList)) : t = headT qs (k + 1) := bytes_inj (ht.trans (headT_next h).symm)
theorem isE {s : ByteArray} (h : s.size = 0) : s.data.toList.isEmpty = true := by
  have : s.data.toList = [] := List.eq_nil_of_length_eq_zero (by simpa using h)
  rw [this]
  rfl
theorem noE {s : ByteArray} (h : 0 < s.size) : s.data.toList.isEmpty = false := by
  cases hc : s.data.toList with
  | nil => have : s.data.toList.length = s.size := by simp
           rw [hc] at this
           simp at this
           omega
  | cons b l => rfl
theorem add_data (a b : ByteArray) : (a ++ b).data.toList = a.data.toList ++ b.data.toList := by simp
set_option maxHeartbeats 4000000 in
set_option maxRecDepth 100000 in
theorem specHead_any (v : Value) (B : Nat) (qs : List Ck) (w : World) (hv : RowCk w B v qs) (hl2 : qs.length ≤ 4096) (hw : wtL qs ≤ 1048576) : Calls Tryz.prog 114 #[v] w fun e w' => e = .returned (.string (headT qs qs.length)) ∧ Below w.heap.size w w' := by
  obtain ⟨a, cap, rfl, _, _, hcells⟩ := hv
  have HC := Lib.hid hcells
  clear hcells
  go_enter Tryz.func114, Tryz.ntmps114
  go_wp2
  go_loopw [3, 4] (fun t i wr => HdRel w qs t i wr) (fun _ i _ => qs.length - (intOf i).toNat)
  case atStart => exact ⟨0, Nat.zero_le _, rfl, by simp [headT, headL, rawL], Below.refl _ _⟩
  case round =>
    obtain ⟨k, hk, rfl, rfl, hb⟩ := hrel
    have HB := Lib.hid hb
    clear hb
    have hsz := headT_size qs k hk
    have hst := wtL_take_le qs k
    by_cases hlt : k < qs.length
    · obtain ⟨g, rfl, _, hg2, _, hcl⟩ := HC.out (by omega)
      obtain ⟨q, hq⟩ : ∃ q : Ck, qs[k] = q := ⟨_, rfl⟩
      have hck := (hcl k hlt).below HB.out hg2
      rw [hq] at hck
      have hm := wtL_mem (List.getElem_mem hlt)
      rw [hq] at hm
      have hwq : q.n.size + q.v.size ≤ 1048576 := by unfold wtC at hm; omega
      have hst2 := fun t => head_step qs hlt t
      rw [hq] at hst2
      have HST := Lib.hid hst2
      obtain ⟨c0, c1, c2, c3, c4, c5, c6, c7, c8, c9, c10, c11⟩ := hck
      have s1 : (k : Int) < qs.length := by omega
      obtain ⟨t0, ht0⟩ : ∃ t0, headT qs k = t0 := ⟨_, rfl⟩
      rw [ht0] at hsz HST ⊢
      have hts : t0.size ≤ 1100000 := by omega
      clear hcl hq hm hst2 ht0 hsz hst
      by_cases hk0 : 0 < k
      · have hki : (0 : Int) < (k : Int) := by omega
        cases en : q.n.toList.isEmpty with
        | true =>
          have h0 := empty_size en
          go_wp2_with fail
          go_roundw
          case rel => exact ⟨k + 1, by omega, by go_num, congrArg Value.string (HST.out _ (by rw [add_data, add_data, if_pos hk0, partL, if_pos (isE h0)]; simp)), HB.out⟩
          case measure => simp [intOf]; omega
        | false =>
          have h0 := some_size en
          go_wp2_with fail
          go_roundw
          case rel => exact ⟨k + 1, by omega, by go_num, congrArg Value.string (HST.out _ (by simp only [add_data]; rw [if_pos hk0, partL, if_neg (by simp [noE h0])]; simp)), HB.out⟩
          case measure => simp [intOf]; omega
      · obtain rfl : k = 0 := by omega
        cases en : q.n.toList.isEmpty with
        | true =>
          have h0 := empty_size en
          go_wp2_with fail
          go_roundw
          case rel => exact ⟨0 + 1, by omega, by go_num, congrArg Value.string (HST.out _ (by simp only [add_data]; rw [if_neg (by omega), partL, if_pos (isE h0)]; simp)), HB.out⟩
          case measure => simp [intOf]; omega
        | false =>
          have h0 := some_size en
          go_wp2_with fail
          go_roundw
          case rel => exact ⟨0 + 1, by omega, by go_num, congrArg Value.string (HST.out _ (by simp only [add_data]; rw [if_neg (by omega), partL, if_neg (by simp [noE h0])]; simp)), HB.out⟩
          case measure => simp [intOf]; omega
    · obtain rfl : k = qs.length := by omega
      go_wp2
      go_ret
      exact ⟨rfl, HB.out⟩
/-- A builder of the call's own that holds these bytes. -/
def HdB (b : Nat) (l : List UInt8) (w : World) : Prop := Lib.IsBuilder 118 5 b b (Lib.byteCells l) w
theorem builderAt_alloc {T e : TypeId} {B b : Nat} {p : Value} {bs : List Value} {w : World} (h : Lib.BuilderAt T e B b p bs w) (o : Obj) : Lib.BuilderAt T e B b p bs (w.alloc o) := by
  have hlt := h.lt
  obtain ⟨hB, v, hbk, hown, hne⟩ := h
  exact ⟨hB, v, (Lib.alloc_old w o b hlt).trans hbk, hown.alloc o, hne⟩
theorem HdB.alloc {b : Nat} {l : List UInt8} {w : World} (h : HdB b l w) (o : Obj) : HdB b l (w.alloc o) := by
  rcases h with h | h
  · exact Or.inl (builderAt_alloc h o)
  · exact Or.inr (builderAt_alloc h o)
theorem HdB.new (w : World) : HdB w.heap.size [] (w.alloc (.cells #[.pointer none, .slice none 0 0] 118)) := Lib.fresh_isBuilder _ _ w
theorem HdB.lt {b : Nat} {l : List UInt8} {w : World} (h : HdB b l w) : b < w.heap.size := by
  rcases h with h | h
  · exact h.lt
  · exact h.lt
theorem write_any (b : Nat) (l : List UInt8) (s : ByteArray) (w : World) (h : HdB b l w) (hl : l.length + s.size ≤ 140737488355328) :
    Calls Tryz.prog 112 #[.pointer (some ⟨b, 0, none⟩), .string s] w fun e w' => e = .returned (.tuple #[.int .i64 s.size, .nilIface]) ∧ HdB b (l ++ s.data.toList) w' ∧ Below b w w' ∧ Lib.OthersKept 5 (some b) w w' := by
  refine (writeString_any b b (Lib.byteCells l) s w h (by rw [Lib.byteCells_length]; exact hl) (Nat.le_of_lt h.lt)).mono ?_
  rintro e w' ⟨rfl, h1, h2, h3⟩
  refine ⟨rfl, Or.inr ?_, h2, h3⟩
  rw [Lib.byteCells_append]
  exact h1
theorem string_any (b : Nat) (s : ByteArray) (w : World) (h : HdB b s.data.toList w) : Calls Tryz.prog 113 #[.pointer (some ⟨b, 0, none⟩)] w fun e w' => e = .returned (.string s) ∧ Below b w w' := by
  refine (Tryz.Builder_String_any b b s.data.toList w h (Nat.le_of_lt h.lt)).mono ?_
  rintro e w' ⟨rfl, hb⟩
  exact ⟨by simp, hb⟩
theorem CkB.others {w w' : World} {g b : Nat} {q : Ck} (h : CkB w g q) (hk : Lib.OthersKept 5 (some b) w w') (hne : g ≠ b) : CkB w' g q :=
  hk g _ h (by simpa using hne) (by intro c fz e; injection e with _ e2; exact absurd e2 (by decide))
def hdV (qs : List Ck) : ByteArray := if codeL qs = 0 then headT qs qs.length else ⟨#[]⟩
theorem code_cases (qs : List Ck) : codeL qs = 0 ∨ codeL qs ≠ 0 := by omega
theorem code_len {qs : List Ck} (h : codeL qs = 0) : qs.length ≤ 4096 := by
  unfold codeL at h
  split at h
  · omega
  · omega
def HiRel (w : World) (qs : List Ck) (i : Value) (wr : World) : Prop := ∃ k : Nat, k ≤ qs.length ∧ i = .int .i64 k ∧ HdB w.heap.size (headT qs k).data.toList wr ∧ Below w.heap.size w wr
theorem hi_end {qs : List Ck} {k : Nat} {b : Nat} {l : List UInt8} {w : World} (h : HdB b l w) (hl : l = (headT qs k).data.toList) : HdB b (headT qs k).data.toList w := hl ▸ h
set_option maxHeartbeats 8000000 in
set_option maxRecDepth 100000 in
theorem implHead_any (v : Value) (B : Nat) (qs : List Ck) (w : World) (hv : RowCk w B v qs) (hl2 : qs.length ≤ 1048576) (hw : wtL qs ≤ 1048576) (hT : TabAt w) : Calls Tryz.prog 37 #[v] w fun e w' => e = .returned (.tuple #[.string (hdV qs), .int .i64 (codeL qs)]) ∧ Below w.heap.size w w' := by
  have HV := Lib.hid hv
  have HT := Lib.hid hT
  have hl : ∀ x ∈ qs, szC x := fun x hx => sz_of (Nat.le_trans (wtL_mem hx) hw)
  clear hT
  rcases code_cases qs with hc | hc
  · have HC := Lib.hid hc
    have hl4 := code_len hc
    have HE : Hid (hdV qs = headT qs qs.length) := Lib.hid (by unfold hdV; rw [if_pos hc])
    clear hc
    obtain ⟨a, cap, rfl, _⟩ := hv
    go_enter Tryz.func37, Tryz.ntmps37
    go_wp2_with fail
    refine (cookiesCode_any _ B qs _ HV.out hl2 hl HT.out).mono ?_
    rintro e w1 ⟨rfl, hb⟩
    have B1 := Lib.hid hb
    have V1 := Lib.hid (HV.out.below hb)
    rw [HC.out]
    clear hb
    go_wp2_with fail
    go_loopw [15] (fun i wr => HiRel w1 qs i wr) (fun i _ => qs.length - (intOf i).toNat)
    case atStart => exact ⟨0, Nat.zero_le _, rfl, by simpa [headT, headL, rawL] using HdB.new w1, (Below.refl _ _).alloc (Nat.le_refl _) _⟩
    case round =>
      obtain ⟨k, hk, rfl, hbd, hb⟩ := hrel
      have HB := Lib.hid hb
      have HD := Lib.hid hbd
      clear hb hbd
      have hsz := headT_size qs k hk
      have hst := wtL_take_le qs k
      by_cases hlt : k < qs.length
      · obtain ⟨a2, cap2, e2, _, _, hcells⟩ := V1.out
        injection e2 with e3 e4 e5
        subst e3 e5
        obtain ⟨g, rfl, _, hg2, _, hcl⟩ := hcells (by omega)
        obtain ⟨q, hq⟩ : ∃ q : Ck, qs[k] = q := ⟨_, rfl⟩
        have hck := (hcl k hlt).below HB.out hg2
        rw [hq] at hck
        have hm := wtL_mem (List.getElem_mem hlt)
        rw [hq] at hm
        have hwq : q.n.size + q.v.size ≤ 1048576 := by unfold wtC at hm; omega
        have hst2 := headT_next hlt
        rw [hq] at hst2
        have HST := Lib.hid hst2
        obtain ⟨c0, c1, c2, c3, c4, c5, c6, c7, c8, c9, c10, c11⟩ := hck
        have s1 : (k : Int) < qs.length := by omega
        obtain ⟨l, hl0⟩ : ∃ l, (headT qs k).data.toList = l := ⟨_, rfl⟩
        rw [hl0] at HD HST
        have hts : l.length ≤ 1100000 := by
          have : (headT qs k).data.toList.length = (headT qs k).size := by simp
          rw [hl0] at this
          omega
        clear hcl hq hm hst2 hl0 hsz hst hcells
        have hblt := HD.out.lt
        have HD1 := Lib.hid (HD.out.alloc (.cells #[.int .i64 q.i, .string q.n, .string q.v, .string q.d, .string q.p, .bool q.ho, .bool q.sc, .bool q.ht, .int .i64 q.s, .int .i64 q.x, .int .i64 q.m, .int .i64 q.u] 41))
        have HB1 : Hid (Below w1.heap.size w1 (wr.alloc (.cells #[.int .i64 q.i, .string q.n, .string q.v, .string q.d, .string q.p, .bool q.ho, .bool q.sc, .bool q.ht, .int .i64 q.s, .int .i64 q.x, .int .i64 q.m, .int .i64 q.u] 41))) := Lib.hid (HB.out.alloc HB.out.size _)
        have P1 := Lib.hid (CkB.new wr q)
        have hne : wr.heap.size ≠ w1.heap.size := by omega
        by_cases hk0 : 0 < k
        · have hki : (0 : Int) < (k : Int) := by omega
          cases en : q.n.toList.isEmpty with
          | true =>
            have h0 := empty_size en
            go_wp2_with fail
            refine (write_any _ _ ⟨#[59, 32]⟩ _ HD1.out (by have : (⟨#[59, 32]⟩ : ByteArray).size = 2 := rfl; omega)).mono ?_
            rintro e w3 ⟨rfl, hd, hb, hk⟩
            have HD2 := Lib.hid hd
            have HB2 := Lib.hid (HB1.out.trans hb)
            have P2 := Lib.hid (P1.out.others hk hne)
            clear hd hb hk
            obtain ⟨d0, d1, d2, d3, d4, d5, d6, d7, d8, d9, d10, d11⟩ := P2.out.at
            have hz2 : (l ++ (⟨#[59, 32]⟩ : ByteArray).data.toList).length + q.v.size ≤ 140737488355328 := by
              have e2 : (⟨#[59, 32]⟩ : ByteArray).data.toList.length = 2 := rfl
              simp only [List.length_append, e2]
              omega
            go_wp2_with fail
            have hW := write_any w1.heap.size (l ++ (⟨#[59, 32]⟩ : ByteArray).data.toList) q.v _ HD2.out hz2
            refine hW.mono ?_
            clear hW
            rintro e w4 ⟨rfl, hd, hb, hk⟩
            have HD3 := Lib.hid hd
            have HB3 := Lib.hid (HB2.out.trans hb)
            clear hd hb hk
            go_wp2_with fail
            go_roundw
            case rel => exact ⟨k + 1, by omega, by go_num, hi_end HD3.out (by rw [HST.out]; simp [partL, hk0, isE h0]), HB3.out⟩
            case measure => simp [intOf]; omega
          | false =>
            have h0 := some_size en
            go_wp2_with fail
            refine (write_any _ _ ⟨#[59, 32]⟩ _ HD1.out (by have : (⟨#[59, 32]⟩ : ByteArray).size = 2 := rfl; omega)).mono ?_
            rintro e w3 ⟨rfl, hd, hb, hk⟩
            have HD2 := Lib.hid hd
            have HB2 := Lib.hid (HB1.out.trans hb)
            have P2 := Lib.hid (P1.out.others hk hne)
            clear hd hb hk
            obtain ⟨d0, d1, d2, d3, d4, d5, d6, d7, d8, d9, d10, d11⟩ := P2.out.at
            have hz2 : (l ++ (⟨#[59, 32]⟩ : ByteArray).data.toList).length + (q.n ++ ⟨#[61]⟩ : ByteArray).size ≤ 140737488355328 := by
              have e1 : (q.n ++ ⟨#[61]⟩ : ByteArray).size = q.n.size + 1 := by rw [ByteArray.size_append]; rfl
              have e2 : (l ++ (⟨#[59, 32]⟩ : ByteArray).data.toList).length ≤ l.length + 2 := by first | (rw [List.length_append]; show _ + 2 ≤ _; omega) | omega
              omega
            go_wp2_with fail
            have hW := write_any w1.heap.size (l ++ (⟨#[59, 32]⟩ : ByteArray).data.toList) (q.n ++ ⟨#[61]⟩) _ HD2.out hz2
            refine hW.mono ?_
            clear hW
            rintro e w4 ⟨rfl, hd, hb, hk⟩
            have HD3 := Lib.hid hd
            have HB3 := Lib.hid (HB2.out.trans hb)
            have P3 := Lib.hid (P2.out.others hk hne)
            clear hd hb hk d0 d1 d2 d3 d4 d5 d6 d7 d8 d9 d10 d11
            obtain ⟨d0, d1, d2, d3, d4, d5, d6, d7, d8, d9, d10, d11⟩ := P3.out.at
            have hz3 : (l ++ (⟨#[59, 32]⟩ : ByteArray).data.toList ++ (q.n ++ ⟨#[61]⟩ : ByteArray).data.toList).length + q.v.size ≤ 140737488355328 := by
              have e1 : (q.n ++ ⟨#[61]⟩ : ByteArray).data.toList.length = q.n.size + 1 := by rw [add_data, List.length_append]; simp
              have e2 : (⟨#[59, 32]⟩ : ByteArray).data.toList.length = 2 := rfl
              simp only [List.length_append, e1, e2]
              omega
            go_wp2_with fail
            have hW := write_any w1.heap.size (l ++ (⟨#[59, 32]⟩ : ByteArray).data.toList ++ (q.n ++ ⟨#[61]⟩ : ByteArray).data.toList) q.v _ HD3.out hz3
            refine hW.mono ?_
            clear hW
            rintro e w5 ⟨rfl, hd, hb, hk⟩
            have HD4 := Lib.hid hd
            have HB4 := Lib.hid (HB3.out.trans hb)
            clear hd hb hk
            go_wp2_with fail
            go_roundw
            case rel => exact ⟨k + 1, by omega, by go_num, hi_end HD4.out (by rw [HST.out]; simp [partL, hk0, noE h0]), HB4.out⟩
            case measure => simp [intOf]; omega
        · have hki : (k : Int) ≤ 0 := by omega
          cases en : q.n.toList.isEmpty with
          | true =>
            have h0 := empty_size en
            obtain ⟨d0, d1, d2, d3, d4, d5, d6, d7, d8, d9, d10, d11⟩ := P1.out.at
            have hz1 : l.length + q.v.size ≤ 140737488355328 := by omega
            go_wp2_with fail
            have hW := write_any w1.heap.size (l) q.v _ HD1.out hz1
            refine hW.mono ?_
            clear hW
            rintro e w3 ⟨rfl, hd, hb, hk⟩
            have HD2 := Lib.hid hd
            have HB2 := Lib.hid (HB1.out.trans hb)
            clear hd hb hk
            go_wp2_with fail
            go_roundw
            case rel => exact ⟨k + 1, by omega, by go_num, hi_end HD2.out (by rw [HST.out]; simp [partL, hk0, isE h0]), HB2.out⟩
            case measure => simp [intOf]; omega
          | false =>
            have h0 := some_size en
            obtain ⟨d0, d1, d2, d3, d4, d5, d6, d7, d8, d9, d10, d11⟩ := P1.out.at
            have hz1 : (l).length + (q.n ++ ⟨#[61]⟩ : ByteArray).size ≤ 140737488355328 := by
              have e1 : (q.n ++ ⟨#[61]⟩ : ByteArray).size = q.n.size + 1 := by rw [ByteArray.size_append]; rfl
              have e2 : (l).length ≤ l.length + 2 := by first | (rw [List.length_append]; show _ + 2 ≤ _; omega) | omega
              omega
            go_wp2_with fail
            have hW := write_any w1.heap.size (l) (q.n ++ ⟨#[61]⟩) _ HD1.out hz1
            refine hW.mono ?_
            clear hW
            rintro e w3 ⟨rfl, hd, hb, hk⟩
            have HD2 := Lib.hid hd
            have HB2 := Lib.hid (HB1.out.trans hb)
            have P2 := Lib.hid (P1.out.others hk hne)
            clear hd hb hk d0 d1 d2 d3 d4 d5 d6 d7 d8 d9 d10 d11
            obtain ⟨d0, d1, d2, d3, d4, d5, d6, d7, d8, d9, d10, d11⟩ := P2.out.at
            have hz2 : (l ++ (q.n ++ ⟨#[61]⟩ : ByteArray).data.toList).length + q.v.size ≤ 140737488355328 := by
              have e1 : (q.n ++ ⟨#[61]⟩ : ByteArray).data.toList.length = q.n.size + 1 := by rw [add_data, List.length_append]; simp
              simp only [List.length_append, e1]
              omega
            go_wp2_with fail
            have hW := write_any w1.heap.size (l ++ (q.n ++ ⟨#[61]⟩ : ByteArray).data.toList) q.v _ HD2.out hz2
            refine hW.mono ?_
            clear hW
            rintro e w4 ⟨rfl, hd, hb, hk⟩
            have HD3 := Lib.hid hd
            have HB3 := Lib.hid (HB2.out.trans hb)
            clear hd hb hk
            go_wp2_with fail
            go_roundw
            case rel => exact ⟨k + 1, by omega, by go_num, hi_end HD3.out (by rw [HST.out]; simp [partL, hk0, noE h0]), HB3.out⟩
            case measure => simp [intOf]; omega
      · obtain rfl : k = qs.length := by omega
        go_wp2_with (go_at_call 113; refine (string_any w1.heap.size (headT qs qs.length) _ HD.out).mono ?_; rintro e w2 ⟨rfl, hb⟩)
        go_ret2
        exact ⟨by rw [HE.out, HC.out]; simp, B1.out.trans ((HB.out.trans hb).mono B1.out.size)⟩
  · obtain ⟨c, hcc⟩ : ∃ c, codeL qs = c := ⟨_, rfl⟩
    have HC := Lib.hid hcc
    have HE : Hid (hdV qs = ⟨#[]⟩) := Lib.hid (by unfold hdV; rw [if_neg hc])
    have hne : (c != 0) = true := by rw [← hcc]; simpa using hc
    clear hc hcc
    go_enter Tryz.func37, Tryz.ntmps37
    go_wp2_with fail
    refine (cookiesCode_any _ B qs _ HV.out hl2 hl HT.out).mono ?_
    rintro e w1 ⟨rfl, hb⟩
    have B1 := Lib.hid hb
    rw [HC.out]
    clear hb
    go_wp2_with fail
    go_ret2
    exact ⟨by rw [HE.out, HC.out]; rfl, B1.out⟩
set_option maxHeartbeats 2000000 in
set_option maxRecDepth 100000 in
theorem specHeadOf_any (v : Value) (B : Nat) (qs : List Ck) (w : World) (hv : RowCk w B v qs) (hl2 : qs.length ≤ 1048576) (hw : wtL qs ≤ 1048576) : Calls Tryz.prog 38 #[v] w fun e w' => e = .returned (.tuple #[.string (hdV qs), .int .i64 (codeL qs)]) ∧ Below w.heap.size w w' := by
  have HV := Lib.hid hv
  have hl : ∀ x ∈ qs, szC x := fun x hx => sz_of (Nat.le_trans (wtL_mem hx) hw)
  obtain ⟨a, cap, rfl, _⟩ := hv
  by_cases h4 : qs.length ≤ 4096
  · have h4i : (qs.length : Int) ≤ 4096 := by omega
    rcases code_cases qs with hc | hc
    · have HC := Lib.hid hc
      have HE : Hid (hdV qs = headT qs qs.length) := Lib.hid (by unfold hdV; rw [if_pos hc])
      clear hc
      go_enter Tryz.func38, Tryz.ntmps38
      go_wp2_with fail
      refine (specAsk_any _ B qs _ HV.out h4 hl).mono ?_
      rintro e w1 ⟨rfl, hb⟩
      have B1 := Lib.hid hb
      have V1 := Lib.hid (HV.out.below hb)
      rw [HC.out]
      clear hb
      go_wp2_with fail
      refine (specHead_any _ B qs _ V1.out h4 hw).mono ?_
      rintro e w2 ⟨rfl, hb⟩
      have B2 := Lib.hid (B1.out.trans (hb.mono B1.out.size))
      clear hb
      go_wp2_with fail
      go_ret2
      exact ⟨by rw [HE.out, HC.out]; rfl, B2.out⟩
    · obtain ⟨c, hcc⟩ : ∃ c, codeL qs = c := ⟨_, rfl⟩
      have HC := Lib.hid hcc
      have HE : Hid (hdV qs = ⟨#[]⟩) := Lib.hid (by unfold hdV; rw [if_neg hc])
      have hne : (c != 0) = true := by rw [← hcc]; simpa using hc
      clear hc hcc
      go_enter Tryz.func38, Tryz.ntmps38
      go_wp2_with fail
      refine (specAsk_any _ B qs _ HV.out h4 hl).mono ?_
      rintro e w1 ⟨rfl, hb⟩
      have B1 := Lib.hid hb
      rw [HC.out]
      clear hb
      go_wp2_with fail
      go_ret2
      exact ⟨by rw [HE.out, HC.out]; rfl, B1.out⟩
  · have h4i : (4096 : Int) < qs.length := by omega
    have hc : codeL qs = 2 := by unfold codeL; rw [if_pos (by omega)]
    have HC := Lib.hid hc
    have HE : Hid (hdV qs = ⟨#[]⟩) := Lib.hid (by unfold hdV; rw [if_neg (by omega)])
    clear hc
    go_enter Tryz.func38, Tryz.ntmps38
    go_wp2_with fail
    go_ret2
    exact ⟨by rw [HE.out, HC.out]; rfl, Below.refl _ _⟩
end Go.Proofs.YtpdonghdnaehhaaGreatDoor
