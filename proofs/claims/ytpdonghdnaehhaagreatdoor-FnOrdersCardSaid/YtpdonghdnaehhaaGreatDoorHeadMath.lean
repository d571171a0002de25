/- Plain facts on the text of a header that tells cookies: it is read back as their names and values. Lists of bytes alone. No condition. -/
import Derived.Test.YtpdonghdnaehhaaGreatDoorPairMath
namespace Go.Proofs.YtpdonghdnaehhaaGreatDoor
open Go.WideShapes

/-- One cookie's part of the header. -/
def partL (n v : List UInt8) : List UInt8 := (if n.isEmpty then [] else n ++ [61]) ++ v
/-- All parts, each behind its sign and blank. -/
def rawL (ps : List (List UInt8 × List UInt8)) : List UInt8 := ps.flatMap fun p => 59 :: 32 :: partL p.1 p.2
def headL (ps : List (List UInt8 × List UInt8)) : List UInt8 := (rawL ps).drop 2
theorem rawL_snoc (ps : List (List UInt8 × List UInt8)) (p : List UInt8 × List UInt8) : rawL (ps ++ [p]) = rawL ps ++ (59 :: 32 :: partL p.1 p.2) := by simp [rawL]
theorem rawL_two {ps : List (List UInt8 × List UInt8)} (h : 0 < ps.length) : 2 ≤ (rawL ps).length := by
  cases ps with
  | nil => simp at h
  | cons p ps => simp [rawL]
theorem headL_snoc (ps : List (List UInt8 × List UInt8)) (p : List UInt8 × List UInt8) : headL (ps ++ [p]) = headL ps ++ ((if 0 < ps.length then [59, 32] else []) ++ partL p.1 p.2) := by
  unfold headL
  rw [rawL_snoc]
  by_cases h : 0 < ps.length
  · rw [if_pos h, List.drop_append_of_le_length (rawL_two h)]
    rfl
  · have : ps = [] := List.eq_nil_of_length_eq_zero (by omega)
    subst this
    rfl
theorem headL_take {ps : List (List UInt8 × List UInt8)} {k : Nat} (h : k < ps.length) : headL (ps.take (k + 1)) = headL (ps.take k) ++ ((if 0 < k then [59, 32] else []) ++ partL ps[k].1 ps[k].2) := by
  rw [List.take_succ_eq_append_getElem h, headL_snoc]
  have : (ps.take k).length = k := by rw [List.length_take]; omega
  rw [this]
theorem head_raw {ps : List (List UInt8 × List UInt8)} (h : 0 < ps.length) : rawL ps = 59 :: 32 :: headL ps := by
  cases ps with
  | nil => simp at h
  | cons p ps => rfl
theorem not_mem_ne {c : UInt8} {l : List UInt8} (h : c ∉ l) : ∀ b ∈ l, b ≠ c := fun _ hb e => h (e ▸ hb)
theorem cut_raw (ps : List (List UInt8 × List UInt8)) : ∀ (l : List UInt8), (59 : UInt8) ∉ l → (∀ p ∈ ps, (59 : UInt8) ∉ partL p.1 p.2) → cutL 59 (l ++ rawL ps) = l :: ps.map fun p => 32 :: partL p.1 p.2 := by
  induction ps with
  | nil =>
    intro l hl _
    rw [show rawL [] = [] from rfl, List.append_nil, cutL_none (not_mem_ne hl)]
    rfl
  | cons p ps ih =>
    intro l hl h
    rw [show rawL (p :: ps) = 59 :: ((32 :: partL p.1 p.2) ++ rawL ps) from rfl, cutL_hit (not_mem_ne hl)]
    rw [ih (32 :: partL p.1 p.2) (by have := h p (by simp); simp [this]) (fun q hq => h q (by simp [hq]))]
    rfl
theorem cut_head {ps : List (List UInt8 × List UInt8)} (h0 : 0 < ps.length) (h : ∀ p ∈ ps, (59 : UInt8) ∉ partL p.1 p.2) : cutL 59 (32 :: headL ps) = ps.map fun p => 32 :: partL p.1 p.2 := by
  have h1 := cut_raw ps [] (by simp) h
  rw [List.nil_append, head_raw h0] at h1
  have h2 := cutL_hit (c := 59) (l := []) (r := 32 :: headL ps) (by simp)
  rw [List.nil_append] at h2
  rw [h2] at h1
  injection h1
theorem pair_part {n v : List UInt8} (hn : n.isEmpty = false) (h : (61 : UInt8) ∉ n) : pairL (partL n v) = [n, v] := by
  have e : partL n v = n ++ 61 :: v := by simp [partL, hn]
  have hf : (partL n v).findIdx (· == 61) = n.length := by
    rw [e, List.findIdx_append]
    have : n.findIdx (· == 61) = n.length := by
      rw [List.findIdx_eq_length]
      intro x hx
      have : x ≠ 61 := fun e => h (e ▸ hx)
      simpa using this
    rw [this, if_neg (by omega)]
    simp [List.findIdx_cons]
  have hh : hitL 61 (partL n v) = true := by
    unfold hitL
    rw [hf, e]
    simp
  unfold pairL nameL pvalL
  rw [if_pos hh, if_pos hh, hf, e]
  simp
/-- Where all have a name, the header is read back as their names and values. -/
theorem pairs_head {ps : List (List UInt8 × List UInt8)} (h0 : 0 < ps.length) (h : ∀ p ∈ ps, p.1.isEmpty = false ∧ (61 : UInt8) ∉ p.1 ∧ (59 : UInt8) ∉ p.1 ∧ (59 : UInt8) ∉ p.2) : pairsL (cutL 59 (32 :: headL ps)) = ps.flatMap fun p => [p.1, p.2] := by
  rw [cut_head h0 (fun p hp => by
    obtain ⟨h1, h2, h3, h4⟩ := h p hp
    unfold partL
    rw [if_neg (by simp [h1])]
    simp [h3, h4])]
  unfold pairsL
  rw [List.flatMap_map]
  show ps.flatMap (fun p => pairL (partL p.1 p.2)) = _
  clear h0
  induction ps with
  | nil => rfl
  | cons p ps ih =>
    obtain ⟨h1, h2, _, _⟩ := h p (by simp)
    rw [List.flatMap_cons, List.flatMap_cons, pair_part h1 h2, ih (fun q hq => h q (by simp [hq]))]
theorem ok_head {ps : List (List UInt8 × List UInt8)} (h0 : 0 < ps.length) (h : ∀ p ∈ ps, (59 : UInt8) ∉ partL p.1 p.2) : (cutL 59 (32 :: headL ps)).all okP = true := by
  rw [cut_head h0 h, List.all_eq_true]
  intro x hx
  obtain ⟨p, _, rfl⟩ := List.mem_map.1 hx
  rfl
end Go.Proofs.YtpdonghdnaehhaaGreatDoor
