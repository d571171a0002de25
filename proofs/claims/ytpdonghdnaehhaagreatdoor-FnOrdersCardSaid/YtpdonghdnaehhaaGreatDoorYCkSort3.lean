/- Cookies sorted by the program, fewer than 20 of them. -/
import Derived.Test.YtpdonghdnaehhaaGreatDoorYCkSort2
namespace Go.Proofs.YtpdonghdnaehhaaGreatDoor
open Go.ChangeShapes Go.WideShapes Go.ChangeAt Go.WideMaps Go.WideElems Go.RowKit

set_option maxRecDepth 100000 in
theorem stable_any (g cap B : Nat) (qs : List Ck) (w : World) (hl : qs.length < 20) (hB : B ≤ g) (hg : g < w.heap.size) (hR : RowF w g qs.length (fun t => qs[t]!)) : Calls Tryz.prog 205 #[.slice (some ⟨g, 0, none⟩) qs.length cap, .int .i64 qs.length, .func (.func 95) #[] #[]] w fun e w' => e = .returned (.tuple #[]) ∧ RowF w' g qs.length (fun t => (sortB firstB qs)[t]!) ∧ Below B w w' ∧ g < w'.heap.size := by
  have HR := Lib.hid hR
  have s1 : ¬ (20 : Int) ≤ qs.length := by omega
  have s2 : ¬ (20 : Int) < qs.length := by omega
  clear hR
  go_enter Tryz.func205, Tryz.ntmps205
  go_wp2
  go_loopw [7, 8] (fun a b wr => a = .int .i64 0 ∧ b = .int .i64 20 ∧ wr = w) (fun _ _ _ => 0)
  case atStart => exact ⟨rfl, rfl, rfl⟩
  case round =>
    obtain ⟨rfl, rfl, rfl⟩ := hrel
    go_wp2_with (go_at_call 271; refine (insertion_any g cap B qs _ (by omega) hB hg HR.out).mono ?_; rintro e w1 ⟨rfl, hr, hb, hg1⟩; have H1 := Lib.hid hr; have B1 := Lib.hid hb; clear hr hb)
    go_loopw [6] (fun bs wx => bs = .int .i64 20 ∧ wx = w1) (fun _ _ => 0)
    case atStart => exact ⟨rfl, rfl⟩
    case round =>
      obtain ⟨rfl, rfl⟩ := hrel
      go_wp2
      go_end0
      exact ⟨rfl, H1.out, B1.out, hg1⟩
set_option maxRecDepth 100000 in
theorem sortStable_any (g cap B : Nat) (qs : List Ck) (w : World) (hl : qs.length < 20) (hB : B ≤ g) (hg : g < w.heap.size) (hR : RowF w g qs.length (fun t => qs[t]!)) : Calls Tryz.prog 109 #[.slice (some ⟨g, 0, none⟩) qs.length cap, .func (.func 95) #[] #[]] w fun e w' => e = .returned (.tuple #[]) ∧ RowF w' g qs.length (fun t => (sortB firstB qs)[t]!) ∧ Below B w w' ∧ g < w'.heap.size := by
  have HR := Lib.hid hR
  clear hR
  go_enter Tryz.func109, Tryz.ntmps109
  go_wp2_with (go_at_call 205; refine (stable_any g cap B qs _ hl hB hg HR.out).mono ?_; rintro e w1 ⟨rfl, hr, hb, hg1⟩; have H1 := Lib.hid hr; have B1 := Lib.hid hb; clear hr hb)
  go_end0
  exact ⟨rfl, H1.out, B1.out, hg1⟩
def sz6 (q : Ck) : Prop := q.n.size ≤ 65536 ∧ q.v.size ≤ 65536 ∧ q.d.size ≤ 65536 ∧ q.p.size ≤ 65536
theorem szC_of {q : Ck} (h : sz6 q) : szC q := by
  obtain ⟨h1, h2, h3, h4⟩ := h
  exact ⟨by omega, by omega, by omega, by omega⟩
theorem rowCk_of {w : World} {g B : Nat} {qs : List Ck} (hl : qs.length ≤ 1000) (hB : B ≤ g) (hg : g < w.heap.size) (h : RowF w g qs.length (fun t => (sortB firstB qs)[t]!)) : RowCk w B (.slice (some ⟨g, 0, none⟩) qs.length qs.length) (sortB firstB qs) := by
  have hs := sortB_length firstB qs
  refine ⟨_, qs.length, by rw [hs], by rw [hs]; exact Nat.le_refl _, by unfold maxLen; omega, fun _ => ⟨g, rfl, hB, hg, fun t ht => h.1 t (by rw [← hs]; exact ht), fun j hj => ?_⟩⟩
  have := h.2 j (by omega)
  dsimp only at this
  rwa [getElem!_pos _ j hj] at this
theorem rowF_of {w : World} {g : Nat} {qs : List Ck} (hf : ∀ t, t < qs.length * 12 → w.frozen? ⟨g, t, none⟩ = false) (hm : ∀ t (ht : t < qs.length), CkAt w g (t * 12) qs[t]) : RowF w g qs.length (fun t => qs[t]!) :=
  ⟨hf, fun t ht => by dsimp only; rw [getElem!_pos qs t ht]; exact hm t ht⟩
set_option maxHeartbeats 4000000 in
set_option maxRecDepth 100000 in
theorem implSort_any (v : Value) (B : Nat) (qs : List Ck) (w : World) (hv : RowCk w B v qs) (hl : qs.length < 20) (hsz : ∀ x ∈ qs, sz6 x) (hok : allC qs = true) (hT : TabAt w) : Calls Tryz.prog 35 #[v] w fun e w' => ∃ u, e = .returned (.tuple #[u, .int .i64 0]) ∧ RowCk w' w.heap.size u (sortB firstB qs) ∧ Below w.heap.size w w' := by
  have hcode : codeL qs = 0 := by unfold codeL; rw [if_neg (by omega), if_pos hok]
  have HV := Lib.hid hv
  obtain ⟨a, cap, rfl, _, _, hx⟩ := hv
  have HX := Lib.hid hx
  have HSZ := Lib.hid hsz
  have HT := Lib.hid hT
  have HCO := Lib.hid hcode
  have hmk := make_cookies qs.length (by omega)
  clear hx hsz hT hok hcode
  go_enter Tryz.func35, Tryz.ntmps35
  go_wp2_with (go_at_call 107; refine (cookiesCode_any _ B qs _ HV.out (by omega) (fun x hx => szC_of (HSZ.out x hx)) HT.out).mono ?_; rintro e w1 ⟨rfl, hb⟩; rw [HCO.out]; have B1 := Lib.hid hb; clear hb)
  clear hmk
  go_loopw [18] (fun i wr => CpRel w1 w1.heap.size qs i wr) (fun i _ => qs.length - (intOf i).toNat)
  case atStart =>
    exact ⟨0, Nat.zero_le _, rfl, fun t ht => mk_free w1 _ _ _ t, fun t _ ht => by omega, fun t ht => mk_cell w1 _ _ _ t ht, (Below.refl _ _).alloc (Nat.le_refl _) _, by simp⟩
  case round =>
    obtain ⟨j, hj, rfl, hf, hm, hc, hb, hz⟩ := hrel
    have HF := Lib.hid hf
    have HM := Lib.hid hm
    have HC := Lib.hid hc
    have HB := Lib.hid hb
    clear hf hm hc hb
    by_cases hlt : j < qs.length
    · obtain ⟨b, rfl, _, hlb, _, hcell⟩ := HX.out (by omega)
      obtain ⟨q, hq⟩ : ∃ q : Ck, qs[j] = q := ⟨_, rfl⟩
      have hck := ((hcell j hlt).below B1.out hlb).below HB.out (Nat.lt_of_lt_of_le hlb B1.out.size)
      have hsq := HSZ.out _ (List.getElem_mem hlt)
      rw [hq] at hck hsq
      have HQ := Lib.hid hq
      have HSQ := Lib.hid hsq
      obtain ⟨c0, c1, c2, c3, c4, c5, c6, c7, c8, c9, c10, c11⟩ := hck
      have s1 : (j : Int) < qs.length := by omega
      clear hcell hq hsq
      have HBa : Hid (Below wr.heap.size wr (wr.alloc (.cells #[.int .i64 q.i, .string q.n, .string q.v, .string q.d, .string q.p, .bool q.ho, .bool q.sc, .bool q.ht, .int .i64 q.s, .int .i64 q.x, .int .i64 q.m, .int .i64 q.u] 41))) := Lib.hid ((Below.refl _ _).alloc (Nat.le_refl _) _)
      go_wp2_with fail
      refine (cloneCk_any q _ HSQ.out.1 HSQ.out.2.1 HSQ.out.2.2.1 HSQ.out.2.2.2).mono ?_
      rintro e w2 ⟨rfl, hb0⟩
      have hb1 := HBa.out.trans (hb0.mono HBa.out.size)
      have HB1 := Lib.hid (HB.out.trans (hb1.mono (Nat.le_of_lt hz)))
      have HF1 : Hid (∀ t, t < qs.length * 12 → w2.frozen? ⟨w1.heap.size, t, none⟩ = false) := Lib.hid fun t ht => by rw [World.frozen?, hb1.block _ hz]; exact HF.out t ht
      have HC1 : Hid (∀ t, t < qs.length * 12 → ∃ u, w2.cell? ⟨w1.heap.size, t, none⟩ = some u) := Lib.hid fun t ht => by
        obtain ⟨u, hu⟩ := HC.out t ht
        exact ⟨u, (hb1.cell (p := ⟨w1.heap.size, t, none⟩) hz).trans hu⟩
      have HM1 : Hid (∀ t (ht : t < qs.length), t < j → CkAt w2 w1.heap.size (t * 12) qs[t]) := Lib.hid fun t ht htj => (HM.out t ht htj).below hb1 hz
      have hz1 := Nat.lt_of_lt_of_le hz hb1.size
      clear hb1 hb0 c0 c1 c2 c3 c4 c5 c6 c7 c8 c9 c10 c11
      obtain ⟨o0, k0⟩ := HC1.out (j * 12) (by omega)
      have f0 := HF1.out (j * 12) (by omega)
      obtain ⟨o1, k1⟩ := HC1.out (j * 12 + 1) (by omega)
      have f1 := HF1.out (j * 12 + 1) (by omega)
      obtain ⟨o2, k2⟩ := HC1.out (j * 12 + 2) (by omega)
      have f2 := HF1.out (j * 12 + 2) (by omega)
      obtain ⟨o3, k3⟩ := HC1.out (j * 12 + 3) (by omega)
      have f3 := HF1.out (j * 12 + 3) (by omega)
      obtain ⟨o4, k4⟩ := HC1.out (j * 12 + 4) (by omega)
      have f4 := HF1.out (j * 12 + 4) (by omega)
      obtain ⟨o5, k5⟩ := HC1.out (j * 12 + 5) (by omega)
      have f5 := HF1.out (j * 12 + 5) (by omega)
      obtain ⟨o6, k6⟩ := HC1.out (j * 12 + 6) (by omega)
      have f6 := HF1.out (j * 12 + 6) (by omega)
      obtain ⟨o7, k7⟩ := HC1.out (j * 12 + 7) (by omega)
      have f7 := HF1.out (j * 12 + 7) (by omega)
      obtain ⟨o8, k8⟩ := HC1.out (j * 12 + 8) (by omega)
      have f8 := HF1.out (j * 12 + 8) (by omega)
      obtain ⟨o9, k9⟩ := HC1.out (j * 12 + 9) (by omega)
      have f9 := HF1.out (j * 12 + 9) (by omega)
      obtain ⟨o10, k10⟩ := HC1.out (j * 12 + 10) (by omega)
      have f10 := HF1.out (j * 12 + 10) (by omega)
      obtain ⟨o11, k11⟩ := HC1.out (j * 12 + 11) (by omega)
      have f11 := HF1.out (j * 12 + 11) (by omega)
      go_wp2_with fail
      go_roundw
      case rel =>
        have hall : ∀ f, f < 12 → ∃ u, w2.cell? ⟨w1.heap.size, j * 12 + f, none⟩ = some u := fun f hf => HC1.out (j * 12 + f) (by omega)
        show CpRel w1 w1.heap.size qs (.int .i64 ((j : Int) + 1)) (putCk w2 w1.heap.size (j * 12) q)
        refine ⟨j + 1, by omega, by go_num, fun t ht => by rw [putCk_frozen]; exact HF1.out t ht, fun t ht htj => ?_, fun t ht => putCk_some hall (HC1.out t ht), putCk_below HB1.out (Nat.le_refl _) _ _, by rw [putCk_size]; exact hz1⟩
        by_cases e : t = j
        · subst e
          rw [HQ.out]
          exact putCk_at hall
        · exact putCk_keeps (by omega) (HM1.out t ht (by omega))
      case measure => simp [intOf]; omega
    · obtain rfl : j = qs.length := by omega
      have HR := Lib.hid (rowF_of HF.out fun t ht => HM.out t ht ht)
      go_wp2_with (go_at_call 109; refine (sortStable_any w1.heap.size qs.length w1.heap.size qs _ hl (Nat.le_refl _) hz HR.out).mono ?_; rintro e w3 ⟨rfl, hr, hb, hg1⟩; have H3 := Lib.hid hr; have B3 := Lib.hid hb; clear hr hb)
      refine bodyPost_ret (v := .tuple #[.slice (some ⟨w1.heap.size, 0, none⟩) qs.length qs.length, .int .i64 0]) (by simp [results, Tryz.results35, go_sem]) rfl ?_
      exact ⟨_, rfl, (rowCk_of (by omega) (Nat.le_refl _) hg1 H3.out).more B1.out.size, B1.out.trans ((HB.out.trans B3.out).mono B1.out.size)⟩
end Go.Proofs.YtpdonghdnaehhaaGreatDoor
