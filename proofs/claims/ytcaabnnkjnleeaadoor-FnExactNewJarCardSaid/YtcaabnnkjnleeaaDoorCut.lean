/- The model's l00Cut: the parts of a text, in a row of the call's own. The text has at most 1048576 bytes. -/
import Derived.Test.YtcaabnnkjnleeaaDoorScan
import Derived.Test.YtcaabnnkjnleeaaDoorHostMath
import Derived.Laws.AppendOwn
import Derived.Laws.OwnMore
import Derived.WalkSmall
import Derived.OwnWalk
namespace Go.Proofs.YtcaabnnkjnleeaaDoor
open Go.ChangeShapes Go.WideShapes Go.ChangeAt Go.WideMaps Go.WideElems Go.RowKit

def strV (l : List UInt8) : Value := .string ⟨l.toArray⟩
theorem strV_data (s : ByteArray) : Value.string s = strV s.data.toList := by
  show Value.string s = .string ⟨s.data.toList.toArray⟩
  simp
theorem cell_off (g j : Nat) : Addr.add ⟨g, 0, none⟩ j = ⟨g, j, none⟩ := by
  cases j <;> simp [Addr.add]
theorem cell_new (w : World) (x : Value) (t : TypeId) : ∀ (j : Nat) (u : Value), [x][j]? = some u → (w.alloc (.cells #[x] t)).cell? (Addr.add ⟨w.heap.size, 0, none⟩ j) = some u := by
  intro j u h
  cases j with
  | zero =>
    obtain rfl : x = u := by simpa using h
    rw [cell_off, World.cell?_alloc_at _ _ _ _ rfl]
    rfl
  | succ j => simp at h
theorem one_str (s : ByteArray) : ∀ u ∈ [Value.string s], u.oneCell' = true := by
  intro u h
  obtain rfl : u = Value.string s := by simpa using h
  rfl
theorem below_own {w wr w1 : World} {o : Obj} {v : Value} {base e size n : Nat} {xs : List Value} (hb : Below w.heap.size w wr) (hown : wr.ownsRow base e size v n xs) (hbase : w.heap.size ≤ base) (hg : (wr.alloc o).grownBy w1 v.ownBlock) : Below w.heap.size w w1 := by
  refine (hb.alloc hb.size o).grown hg (by have := hb.size; simp; omega) fun k hk => ?_
  obtain ⟨_, h | ⟨g, cap, cur, rfl, hge, _⟩⟩ := hown
  · obtain ⟨rfl, _⟩ := h
    cases hk
  · cases hk
    exact Nat.le_trans hbase hge
theorem info_string : (Tryd.prog.info? 9).map (fun i => (i.zero, i.size, i.bytes)) = some (some (.string ByteArray.empty), 1, 16) := by kernel_rfl
def CutRel (w : World) (s : ByteArray) (c : UInt8) (out frm i : Value) (wr : World) : Prop :=
  ∃ (k f : Nat) (done : List (List UInt8)), k ≤ s.size ∧ f ≤ k ∧ i = .int .i64 k ∧ frm = .int .i64 f ∧ cutAcc c done (s.extract f k).data.toList (s.data.toList.drop k) = cutL c s.data.toList ∧
    wr.ownsRow w.heap.size 9 1 out done.length (done.map strV) ∧ done.length ≤ k ∧ Below w.heap.size w wr
def CutPost (w : World) (ps : List (List UInt8)) (e : Ending) (w' : World) : Prop :=
  ∃ v, e = .returned v ∧ w'.ownsRow w.heap.size 9 1 v ps.length (ps.map strV) ∧ Below w.heap.size w w'
theorem cut_hit {s : ByteArray} {c : UInt8} {k f : Nat} {done : List (List UInt8)} (hk : k < s.size) (hb : s[k]'hk = c) (h : cutAcc c done (s.extract f k).data.toList (s.data.toList.drop k) = cutL c s.data.toList) :
    cutAcc c (done ++ [(s.extract f k).data.toList]) (s.extract (k + 1) (k + 1)).data.toList (s.data.toList.drop (k + 1)) = cutL c s.data.toList := by
  have hl : k < s.data.toList.length := by simpa using hk
  rw [List.drop_eq_getElem_cons hl] at h
  have hb2 : s.data.toList[k] = c := hb
  rw [cutAcc, if_pos hb2] at h
  have e : (s.extract (k + 1) (k + 1)).data.toList = [] := by
    rw [Lib.extract_data, Nat.sub_self, List.take_zero]
  rw [e]
  exact h
theorem cut_miss {s : ByteArray} {c : UInt8} {k f : Nat} {done : List (List UInt8)} (hk : k < s.size) (hf : f ≤ k) (hb : s[k]'hk ≠ c) (h : cutAcc c done (s.extract f k).data.toList (s.data.toList.drop k) = cutL c s.data.toList) :
    cutAcc c done (s.extract f (k + 1)).data.toList (s.data.toList.drop (k + 1)) = cutL c s.data.toList := by
  have hl : k < s.data.toList.length := by simpa using hk
  rw [List.drop_eq_getElem_cons hl] at h
  have hb2 : ¬ s.data.toList[k] = c := hb
  rw [cutAcc, if_neg hb2] at h
  have e : (s.extract f (k + 1)).data.toList = (s.extract f k).data.toList ++ [s.data.toList[k]] := by
    rw [Lib.extract_data, Lib.extract_data, show k + 1 - f = (k - f) + 1 by omega, List.take_succ_eq_append_getElem (by simp; omega)]
    congr 2
    rw [List.getElem_drop]
    congr 1
    omega
  rw [e]
  exact h
theorem cut_end {s : ByteArray} {c : UInt8} {k f : Nat} {done : List (List UInt8)} (hk : s.size ≤ k) (h : cutAcc c done (s.extract f k).data.toList (s.data.toList.drop k) = cutL c s.data.toList) :
    done ++ [(s.extract f k).data.toList] = cutL c s.data.toList := by
  rw [List.drop_eq_nil_of_le (by simp; omega), cutAcc] at h
  exact h
set_option maxHeartbeats 1000000 in
set_option maxRecDepth 100000 in
theorem cut_any (s : ByteArray) (c : UInt8) (w : World) (hs : s.size ≤ 1048576) : Calls Tryd.prog 106 #[.string s, .int .u8 c.toNat] w (CutPost w (cutL c s.data.toList)) := by
  obtain ⟨i0, hi, hz0, hz1, hz2⟩ := info_parts info_string
  go_enter Tryd.func106, Tryd.ntmps106
  go_wp2
  go_loopw [5, 6, 7] (fun out frm i wr => CutRel w s c out frm i wr) (fun _ _ i _ => s.size - (intOf i).toNat)
  case atStart => exact ⟨0, 0, [], Nat.zero_le _, Nat.le_refl _, rfl, rfl, by rw [Lib.extract_data]; rfl, ⟨rfl, .inr ⟨w.heap.size, 0, #[], rfl, Nat.le_refl _, heap_alloc_new _ _, Nat.le_refl _, Nat.zero_le _, rfl, rfl⟩⟩, Nat.le_refl _, (Below.refl _ _).alloc (Nat.le_refl _) _⟩
  case round =>
    obtain ⟨k, f, done, hk, hf, rfl, rfl, hcut, hown, hdl, hb⟩ := hrel
    have HC := Lib.hid hcut
    have HO := Lib.hid hown
    have HB := Lib.hid hb
    have hsz := hb.size
    clear hcut hown hb
    by_cases hlt : k < s.size
    · cases hc : ((s[k].toNat : Int) == (c.toNat : Int)) with
      | true =>
        have HE := Lib.hid (byte_eq_of hc)
        go_wp2_with (at_builtin; refine wpList_append_own _ rfl (.tmp 20) (.tmp 25) 42 rfl w.heap.size 9 i0 (.string ByteArray.empty) 1 16 Tryd.underlying42 hi hz0 hz1 hz2 rfl (by decide) _ _ _ rfl (HO.out.alloc _) ⟨wr.heap.size, 0, none⟩ 1 1 [.string (s.extract f k)] rfl rfl (cell_new _ _ _) ?c2 ?c3 ?c4 ?c5 ?_; rotate_left 4; intro v' w1 hown' hgrow _)
        case c2 => exact one_str _
        case c3 => unfold maxLen; omega
        case c4 => omega
        case c5 => first | (simp; omega) | omega
        go_roundw
        case rel => exact ⟨k + 1, k + 1, done ++ [(s.extract f k).data.toList], by omega, by omega, by go_num, by go_num, cut_hit hlt HE.out HC.out, by rw [List.length_append, List.map_append]; rw [strV_data] at hown'; exact hown', by simp; omega, below_own HB.out HO.out (Nat.le_refl _) hgrow⟩
        case measure => simp [intOf]; omega
      | false =>
        have HE := Lib.hid (byte_ne_of hc)
        go_wp2
        go_roundw
        case rel => exact ⟨k + 1, f, done, by omega, by omega, by go_num, rfl, cut_miss hlt hf HE.out HC.out, HO.out, by omega, HB.out⟩
        case measure => simp [intOf]; omega
    · obtain rfl : k = s.size := by omega
      have hlen : Hid (done ++ [(s.extract f s.size).data.toList] = cutL c s.data.toList) := cut_end (Nat.le_refl _) HC.out
      go_wp2_with (at_builtin; refine wpList_append_own _ rfl (.tmp 29) (.tmp 33) 42 rfl w.heap.size 9 i0 (.string ByteArray.empty) 1 16 Tryd.underlying42 hi hz0 hz1 hz2 rfl (by decide) _ _ _ rfl (HO.out.alloc _) ⟨wr.heap.size, 0, none⟩ 1 1 [.string (s.extract f s.size)] rfl rfl (cell_new _ _ _) ?d2 ?d3 ?d4 ?d5 ?_; rotate_left 4; intro v' w1 hown' hgrow _)
      case d2 => exact one_str _
      case d3 => unfold maxLen; omega
      case d4 => omega
      case d5 => first | (simp; omega) | omega
      go_ret
      refine ⟨v', rfl, ?_, below_own HB.out HO.out (Nat.le_refl _) hgrow⟩
      rw [← hlen.out, List.length_append, List.map_append]
      rw [strV_data] at hown'
      exact hown'
/-- A row of texts that can be read, in a block not below B. -/
def TextsIn (w : World) (B : Nat) (v : Value) (ps : List (List UInt8)) : Prop :=
  ∃ g cap, v = .slice (some ⟨g, 0, none⟩) ps.length cap ∧ B ≤ g ∧ g < w.heap.size ∧ ps.length ≤ cap ∧ cap ≤ maxLen ∧ (∀ j, j < ps.length → w.frozen? ⟨g, j, none⟩ = false) ∧ ∀ j (hj : j < ps.length), w.cell? ⟨g, j, none⟩ = some (strV ps[j])
theorem texts_of_own {w : World} {B : Nat} {v : Value} {ps : List (List UInt8)} (h1 : 1 ≤ ps.length) (h : w.ownsRow B 9 1 v ps.length (ps.map strV)) : TextsIn w B v ps := by
  have h0 := h
  obtain ⟨_, h | ⟨g, cap, cur, rfl, hge, hh, h2, h3, _, _⟩⟩ := h
  · omega
  · refine ⟨g, cap, rfl, hge, (Array.getElem?_eq_some_iff.1 hh).1, h2, h3, fun j _ => h0.frozenAt j, fun j hj => ?_⟩
    rw [h0.cellAt j (by omega)]
    simp [hj]
theorem TextsIn.below {w w' : World} {B : Nat} {v : Value} {ps : List (List UInt8)} (h : TextsIn w B v ps) (hb : Below w.heap.size w w') : TextsIn w' B v ps := by
  obtain ⟨g, cap, rfl, h1, h2, h3, h4, h5, h6⟩ := h
  exact ⟨g, cap, rfl, h1, Nat.lt_of_lt_of_le h2 hb.size, h3, h4, fun j hj => (hb.frozen (p := ⟨g, j, none⟩) h2).trans (h5 j hj), fun j hj => (hb.cell (p := ⟨g, j, none⟩) h2).trans (h6 j hj)⟩
end Go.Proofs.YtcaabnnkjnleeaaDoor
