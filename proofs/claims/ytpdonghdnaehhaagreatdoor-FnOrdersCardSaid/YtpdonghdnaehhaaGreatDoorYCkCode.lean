/- The code of a list of cookies: of the program and of the model. No condition of its own. -/
import Derived.Test.YtpdonghdnaehhaaGreatDoorYCkList
import Derived.Test.YtpdonghdnaehhaaGreatDoorYCkOrders
namespace Go.Proofs.YtpdonghdnaehhaaGreatDoor
open Go.ChangeShapes Go.WideShapes Go.ChangeAt Go.WideMaps Go.WideElems Go.RowKit

def allC (qs : List Ck) : Bool := qs.all ckOK
def codeL (qs : List Ck) : Int := if 4096 < qs.length then 2 else if allC qs then 0 else 1
def CkUpto (qs : List Ck) (k : Nat) : Prop := ∀ j (hj : j < qs.length), j < k → ckOK qs[j] = true
theorem ckUpto_next {qs : List Ck} {k : Nat} (h : CkUpto qs k) (hk : k < qs.length) (ho : ckOK qs[k] = true) : CkUpto qs (k + 1) := fun j hj h2 => by
  by_cases e : j = k
  · subst e
    exact ho
  · exact h j hj (by omega)
theorem all_ck {qs : List Ck} {k : Nat} (h : CkUpto qs k) (hk : qs.length ≤ k) : allC qs = true := by
  rw [allC, List.all_eq_true]
  intro x hx
  obtain ⟨j, hj, rfl⟩ := List.mem_iff_getElem.1 hx
  exact h j hj (by omega)
theorem not_ck {qs : List Ck} {k : Nat} (hk : k < qs.length) (h : ckOK qs[k] = false) : allC qs = false := by
  rw [allC, List.all_eq_false]
  exact ⟨_, List.getElem_mem hk, by simp [h]⟩
set_option maxRecDepth 100000 in
theorem noCookie_any (q : Ck) (w : World) (h : szC q) (hT : TabAt w) : Calls Tryz.prog 204 #[.agg #[.int .i64 q.i, .string q.n, .string q.v, .string q.d, .string q.p, .bool q.ho, .bool q.sc, .bool q.ht, .int .i64 q.s, .int .i64 q.x, .int .i64 q.m, .int .i64 q.u]] w fun e w' => e = .returned (.bool (!ckOK q)) ∧ Below w.heap.size w w' := by
  have HB : Hid (Below w.heap.size w (w.alloc (.cells #[.int .i64 q.i, .string q.n, .string q.v, .string q.d, .string q.p, .bool q.ho, .bool q.sc, .bool q.ht, .int .i64 q.s, .int .i64 q.x, .int .i64 q.m, .int .i64 q.u] 41))) := Lib.hid ((Below.refl _ _).alloc (Nat.le_refl _) _)
  have HT := Lib.hid hT
  clear hT
  go_enter Tryz.func204, Tryz.ntmps204
  go_wp2_with fail
  refine (cookieOK_at q _ h (HT.out.below HB.out)).mono ?_
  rintro e w1 ⟨rfl, hb⟩
  have B1 := Lib.hid (HB.out.trans (hb.mono HB.out.size))
  clear hb
  go_wp2_with fail
  go_ret
  exact ⟨bool_end (by simp), B1.out⟩
set_option maxHeartbeats 2000000 in
set_option maxRecDepth 100000 in
theorem indexNo_any (v : Value) (B : Nat) (qs : List Ck) (w : World) (hv : RowCk w B v qs) (hl2 : qs.length ≤ 1048576) (hl : ∀ x ∈ qs, szC x) (hT : TabAt w) : Calls Tryz.prog 270 #[v, .func (.func 204) #[] #[]] w fun e w' => ∃ r : Int, e = .returned (.int .i64 r) ∧ (decide (0 ≤ r) = !allC qs) ∧ Below w.heap.size w w' := by
  obtain ⟨a, cap, rfl, _, _, hcells⟩ := hv
  have HC := Lib.hid hcells
  have HL := Lib.hid hl
  have HT := Lib.hid hT
  clear hcells hl hT
  go_enter Tryz.func270, Tryz.ntmps270
  go_wp2
  go_loopw [8] (fun i wr => ∃ k : Nat, k ≤ qs.length ∧ i = .int .i64 k ∧ CkUpto qs k ∧ Below w.heap.size w wr) (fun i _ => qs.length - (intOf i).toNat)
  case atStart => exact ⟨0, Nat.zero_le _, rfl, fun j hj h => by omega, Below.refl _ _⟩
  case round =>
    obtain ⟨k, hk, rfl, hup, hb⟩ := hrel
    have HU := Lib.hid hup
    have HB := Lib.hid hb
    clear hup hb
    by_cases hlt : k < qs.length
    · obtain ⟨g, rfl, _, hg2, _, hcl⟩ := HC.out (by omega)
      obtain ⟨q, hq⟩ : ∃ q : Ck, qs[k] = q := ⟨_, rfl⟩
      have hck := (hcl k hlt).below HB.out hg2
      have hsz := HL.out _ (List.getElem_mem hlt)
      rw [hq] at hck hsz
      have HQ := Lib.hid hq
      have HS := Lib.hid hsz
      obtain ⟨c0, c1, c2, c3, c4, c5, c6, c7, c8, c9, c10, c11⟩ := hck
      have s1 : (k : Int) < qs.length := by omega
      clear hcl hq hsz
      cases ho : ckOK q with
      | true =>
        have HO := Lib.hid ho
        clear ho
        go_wp2_with (go_at_call 204; refine (noCookie_any q _ HS.out (HT.out.below HB.out)).mono ?_; rintro e w' ⟨rfl, hb⟩; rw [HO.out]; have HB2 := Lib.hid hb; clear hb)
        go_roundw
        case rel => exact ⟨k + 1, by omega, by go_num, ckUpto_next HU.out hlt (by rw [HQ.out]; exact HO.out), HB.out.trans (HB2.out.mono HB.out.size)⟩
        case measure => simp [intOf]; omega
      | false =>
        have HO := Lib.hid ho
        clear ho
        go_wp2_with (go_at_call 204; refine (noCookie_any q _ HS.out (HT.out.below HB.out)).mono ?_; rintro e w' ⟨rfl, hb⟩; rw [HO.out]; have HB2 := Lib.hid hb; clear hb)
        go_ret
        refine ⟨(k : Int), rfl, ?_, HB.out.trans (HB2.out.mono HB.out.size)⟩
        rw [not_ck hlt (by rw [HQ.out]; exact HO.out)]
        exact decide_eq_true (by omega)
    · go_wp2
      go_ret
      refine ⟨-1, rfl, ?_, HB.out⟩
      rw [all_ck HU.out (by omega)]
      rfl
set_option maxRecDepth 100000 in
theorem containsNo_any (v : Value) (B : Nat) (qs : List Ck) (w : World) (hv : RowCk w B v qs) (hl2 : qs.length ≤ 1048576) (hl : ∀ x ∈ qs, szC x) (hT : TabAt w) : Calls Tryz.prog 203 #[v, .func (.func 204) #[] #[]] w fun e w' => e = .returned (.bool (!allC qs)) ∧ Below w.heap.size w w' := by
  have HV := Lib.hid hv
  have HL := Lib.hid hl
  have HT := Lib.hid hT
  clear hv hl hT
  go_enter Tryz.func203, Tryz.ntmps203
  go_wp2_with (go_at_call 270; refine (indexNo_any v B qs _ HV.out hl2 HL.out HT.out).mono ?_; rintro e w1 ⟨r, rfl, hr, hb⟩; have HR := Lib.hid hr; have HB := Lib.hid hb; clear hr hb)
  go_ret
  exact ⟨bool_end HR.out, HB.out⟩
set_option maxRecDepth 100000 in
theorem cookiesCode_any (v : Value) (B : Nat) (qs : List Ck) (w : World) (hv : RowCk w B v qs) (hl2 : qs.length ≤ 1048576) (hl : ∀ x ∈ qs, szC x) (hT : TabAt w) : Calls Tryz.prog 107 #[v] w fun e w' => e = .returned (.int .i64 (codeL qs)) ∧ Below w.heap.size w w' := by
  have HV := Lib.hid hv
  have HL := Lib.hid hl
  have HT := Lib.hid hT
  obtain ⟨a, cap, rfl, _⟩ := hv
  clear hl hT
  by_cases h1 : (4096 : Int) < qs.length
  · have HE : Hid (codeL qs = 2) := Lib.hid (by unfold codeL; rw [if_pos (by omega)])
    go_enter Tryz.func107, Tryz.ntmps107
    go_wp2
    go_ret
    exact ⟨by rw [HE.out]; rfl, Below.refl _ _⟩
  · cases g : allC qs with
    | true =>
      have HE : Hid (codeL qs = 0) := Lib.hid (by unfold codeL; rw [if_neg (by omega), if_pos g])
      go_enter Tryz.func107, Tryz.ntmps107
      go_wp2_with (go_at_call 203; refine (containsNo_any _ B qs _ HV.out hl2 HL.out HT.out).mono ?_; rintro e w1 ⟨rfl, hb⟩; rw [g]; clear g; have HB := Lib.hid hb; clear hb)
      go_ret
      exact ⟨by rw [HE.out]; rfl, HB.out⟩
    | false =>
      have HE : Hid (codeL qs = 1) := Lib.hid (by unfold codeL; rw [if_neg (by omega), if_neg (by simp [g])])
      go_enter Tryz.func107, Tryz.ntmps107
      go_wp2_with (go_at_call 203; refine (containsNo_any _ B qs _ HV.out hl2 HL.out HT.out).mono ?_; rintro e w1 ⟨rfl, hb⟩; rw [g]; clear g; have HB := Lib.hid hb; clear hb)
      go_ret
      exact ⟨by rw [HE.out]; rfl, HB.out⟩
set_option maxHeartbeats 2000000 in
set_option maxRecDepth 100000 in
theorem specAsk_any (v : Value) (B : Nat) (qs : List Ck) (w : World) (hv : RowCk w B v qs) (hl2 : qs.length ≤ 4096) (hl : ∀ x ∈ qs, szC x) : Calls Tryz.prog 110 #[v] w fun e w' => e = .returned (.int .i64 (codeL qs)) ∧ Below w.heap.size w w' := by
  obtain ⟨a, cap, rfl, _, _, hcells⟩ := hv
  have HC := Lib.hid hcells
  have HL := Lib.hid hl
  have h1 : (qs.length : Int) ≤ 4096 := by omega
  clear hcells hl
  go_enter Tryz.func110, Tryz.ntmps110
  go_wp2
  go_loopw [3] (fun i wr => ∃ k : Nat, k ≤ qs.length ∧ i = .int .i64 k ∧ CkUpto qs k ∧ Below w.heap.size w wr) (fun i _ => qs.length - (intOf i).toNat)
  case atStart => exact ⟨0, Nat.zero_le _, rfl, fun j hj h => by omega, Below.refl _ _⟩
  case round =>
    obtain ⟨k, hk, rfl, hup, hb⟩ := hrel
    have HU := Lib.hid hup
    have HB := Lib.hid hb
    clear hup hb
    by_cases hlt : k < qs.length
    · obtain ⟨g, rfl, _, hg2, _, hcl⟩ := HC.out (by omega)
      obtain ⟨q, hq⟩ : ∃ q : Ck, qs[k] = q := ⟨_, rfl⟩
      have hck := (hcl k hlt).below HB.out hg2
      have hsz := HL.out _ (List.getElem_mem hlt)
      rw [hq] at hck hsz
      have HQ := Lib.hid hq
      have HS := Lib.hid hsz
      obtain ⟨c0, c1, c2, c3, c4, c5, c6, c7, c8, c9, c10, c11⟩ := hck
      have s1 : (k : Int) < qs.length := by omega
      clear hcl hq hsz
      cases ho : ckOK q with
      | true =>
        have HO := Lib.hid ho
        clear ho
        go_wp2_with (go_at_call 96; refine (specCk_at q _ HS.out).mono ?_; rintro e w' ⟨rfl, hb⟩; rw [HO.out]; have HB2 := Lib.hid hb; clear hb)
        go_roundw
        case rel => exact ⟨k + 1, by omega, by go_num, ckUpto_next HU.out hlt (by rw [HQ.out]; exact HO.out), HB.out.trans (HB2.out.mono HB.out.size)⟩
        case measure => simp [intOf]; omega
      | false =>
        have HO := Lib.hid ho
        clear ho
        go_wp2_with (go_at_call 96; refine (specCk_at q _ HS.out).mono ?_; rintro e w' ⟨rfl, hb⟩; rw [HO.out]; have HB2 := Lib.hid hb; clear hb)
        go_ret
        have HE : codeL qs = 1 := by unfold codeL; rw [if_neg (by omega), not_ck hlt (by rw [HQ.out]; exact HO.out)]; rfl
        exact ⟨by rw [HE]; rfl, HB.out.trans (HB2.out.mono HB.out.size)⟩
    · go_wp2
      go_ret
      have HE : codeL qs = 0 := by unfold codeL; rw [if_neg (by omega), all_ck HU.out (by omega)]; rfl
      exact ⟨by rw [HE]; rfl, HB.out⟩
end Go.Proofs.YtpdonghdnaehhaaGreatDoor
