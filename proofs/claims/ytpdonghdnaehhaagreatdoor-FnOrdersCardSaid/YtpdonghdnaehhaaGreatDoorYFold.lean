/- Fold of the program and of the model: what they answer; the law's walk. No condition of its own. -/
import Derived.Test.YtpdonghdnaehhaaGreatDoorYGa
import Derived.Laws.AppendOwn
import Derived.Laws.IdiomStrings
import Derived.Lib.BufferRead
import Derived.WalkSmall
import Derived.OwnWalk
namespace Go.Proofs.YtpdonghdnaehhaaGreatDoor
open Go.ChangeShapes Go.WideShapes Go.ChangeAt Go.WideMaps Go.WideElems Go.RowKit

def upB (b : UInt8) : Bool := decide (65 ≤ b.toNat ∧ b.toNat ≤ 90)
def lowB (b : UInt8) : UInt8 := if upB b then b + 32 else b
def foldL (l : List UInt8) : ByteArray := ⟨(l.map lowB).toArray⟩
def foldB (s : ByteArray) : ByteArray := if s.size ≤ 65536 then foldL s.data.toList else ⟨#[]⟩
def byteV (b : UInt8) : Value := .int .u8 b.toNat
theorem low_up {b : UInt8} (h1 : 65 ≤ b.toNat) (h2 : b.toNat ≤ 90) : (lowB b).toNat = b.toNat + 32 := by
  have : upB b = true := by simp [upB]; omega
  rw [lowB, if_pos this, UInt8.toNat_add]
  show (b.toNat + 32) % 256 = _
  omega
theorem low_other {b : UInt8} (h : ¬ (65 ≤ b.toNat ∧ b.toNat ≤ 90)) : lowB b = b := by
  have : ¬ upB b = true := by simp [upB]; omega
  rw [lowB, if_neg this]

theorem add_off (g j : Nat) : Addr.add ⟨g, 0, none⟩ j = ⟨g, j, none⟩ := by
  cases j <;> simp [Addr.add]
/-- The one cell of a block just made. -/
theorem new_cell (w : World) (x : Value) (t : TypeId) : ∀ (j : Nat) (u : Value), [x][j]? = some u → (w.alloc (.cells #[x] t)).cell? (Addr.add ⟨w.heap.size, 0, none⟩ j) = some u := by
  intro j u h
  cases j with
  | zero =>
    obtain rfl : x = u := by simpa using h
    rw [add_off, World.cell?_alloc_at _ _ _ _ rfl]
    rfl
  | succ j => simp at h
theorem one_int (k : IntKind) (n : Int) : ∀ u ∈ [Value.int k n], u.oneCell' = true := by
  intro u h
  obtain rfl : u = Value.int k n := by simpa using h
  rfl
theorem below_next {w wr w1 : World} {o : Obj} {v : Value} {base e size n : Nat} {xs : List Value} (hb : Below w.heap.size w wr) (hown : wr.ownsRow base e size v n xs) (hbase : w.heap.size ≤ base) (hg : (wr.alloc o).grownBy w1 v.ownBlock) : Below w.heap.size w w1 := by
  refine (hb.alloc hb.size o).grown hg (by have := hb.size; simp; omega) fun k hk => ?_
  obtain ⟨_, h | ⟨g, cap, cur, rfl, hge, _⟩⟩ := hown
  · obtain ⟨rfl, _⟩ := h
    cases hk
  · cases hk
    exact Nat.le_trans hbase hge
/-- 'string(b)' of a row of the call's own bytes. -/
theorem string_of_own {P : Program} {w : World} {base e src dst : Nat} {v : Value} {n : Nat} {l : List UInt8} (hs : P.underlying src = some (.slice e)) (he : P.underlying e = some (.int .u8)) (hd : P.underlying dst = some .string)
    (h : w.ownsRow base e 1 v n (l.map byteV)) : (convert src dst v).run P w = .ok (.string ⟨l.toArray⟩) w := by
  obtain ⟨hl, h | ⟨g, cap, cur, rfl, _, hg, _, _, _, hc⟩⟩ := h
  · obtain ⟨rfl, rfl⟩ := h
    have : l = [] := by
      cases l with
      | nil => rfl
      | cons _ _ => simp at hl
    subst this
    exact Lib.run_convert_nil_bytes w src dst e 0 hs he hd
  · have hn : n = l.length := by simpa using hl.symm
    subst hn
    refine run_convert_bytes_back w src dst e ⟨g, 0, none⟩ cap l hs he hd fun j hj => ?_
    have h1 : cur.toList[j]? = some (byteV l[j]) := by
      have := congrArg (·[j]?) hc
      simp only [Nat.mul_one, List.getElem?_take, hj, if_true] at this
      rw [this]
      simp [hj]
    have h2 : cur[j]? = some (byteV l[j]) := by simpa using h1
    rw [add_off]
    simp only [World.cell?, hg]
    exact h2

theorem info_byte : (Tryz.prog.info? 5).map (fun i => (i.zero, i.size, i.bytes)) = some (some (.int .u8 0), 1, 1) := by kernel_rfl
def FoldRel (w : World) (s : ByteArray) (v i : Value) (wr : World) : Prop :=
  ∃ k : Nat, k ≤ s.size ∧ i = .int .i64 k ∧ wr.ownsRow w.heap.size 5 1 v k (((s.data.toList.take k).map lowB).map byteV) ∧ Below w.heap.size w wr
set_option maxRecDepth 100000 in
theorem specFoldL (s : ByteArray) (w : World) (hs : s.size ≤ 65536) : Calls Tryz.prog 158 #[.string s] w fun e w' => e = .returned (.string (foldL s.data.toList)) ∧ Below w.heap.size w w' := by
  obtain ⟨i0, hi, hz0, hz1, hz2⟩ := info_parts info_byte
  go_enter Tryz.func158, Tryz.ntmps158
  go_wp2
  go_loopw [3, 4] (fun v i wr => FoldRel w s v i wr) (fun _ i _ => s.size - (intOf i).toNat)
  case atStart => exact ⟨0, Nat.zero_le _, rfl, ⟨rfl, .inr ⟨w.heap.size, 0, #[], rfl, Nat.le_refl _, heap_alloc_new _ _, Nat.le_refl _, Nat.zero_le _, rfl, rfl⟩⟩, (Below.refl _ _).alloc (Nat.le_refl _) _⟩
  case round =>
    obtain ⟨k, hk, rfl, hown, hb⟩ := hrel
    have HO := Lib.hid hown
    have HB := Lib.hid hb
    have hsz := hb.size
    clear hown hb
    by_cases hlt : k < s.size
    · by_cases hu : 65 ≤ s[k].toNat ∧ s[k].toNat ≤ 90
      · obtain ⟨hu1, hu2⟩ := hu
        have HL := Lib.hid (low_up hu1 hu2)
        go_wp2_with (at_builtin; refine wpList_append_own _ rfl (.tmp 24) (.tmp 26) 22 rfl w.heap.size 5 i0 (.int .u8 0) 1 1 Tryz.underlying22 hi hz0 hz1 hz2 rfl (by decide) _ _ _ rfl (HO.out.alloc _) ⟨wr.heap.size, 0, none⟩ 1 1 [.int .u8 ((s[k].toNat : Int) + 32)] rfl rfl (new_cell _ _ _) ?c2 ?c3 ?c4 ?c5 ?_; rotate_left 4; intro v' w1 hown' hgrow _)
        case c2 => first | exact one_int _ _ | rfl
        case c3 => unfold maxLen; omega
        case c4 => omega
        case c5 => first | (simp; omega) | omega
        go_roundw
        case rel => exact ⟨k + 1, hlt, by go_num, by rw [take_snoc s k hlt, List.map_append, List.map_append]; simpa [byteV, HL.out] using hown', below_next HB.out HO.out (Nat.le_refl _) hgrow⟩
        case measure => simp [intOf]; omega
      · have HL := Lib.hid (low_other hu)
        rcases (show s[k].toNat < 65 ∨ 90 < s[k].toNat by omega) with h1 | h1
        all_goals
          clear hu
          go_wp2_with (at_builtin; refine wpList_append_own _ rfl (.tmp 24) (.tmp 26) 22 rfl w.heap.size 5 i0 (.int .u8 0) 1 1 Tryz.underlying22 hi hz0 hz1 hz2 rfl (by decide) _ _ _ rfl (HO.out.alloc _) ⟨wr.heap.size, 0, none⟩ 1 1 [.int .u8 (s[k].toNat)] rfl rfl (new_cell _ _ _) ?c2 ?c3 ?c4 ?c5 ?_; rotate_left 4; intro v' w1 hown' hgrow _)
          case c2 => first | exact one_int _ _ | rfl
          case c3 => unfold maxLen; omega
          case c4 => omega
          case c5 => first | (simp; omega) | omega
          go_roundw
          case rel => exact ⟨k + 1, hlt, by go_num, by rw [take_snoc s k hlt, List.map_append, List.map_append]; simpa [byteV, HL.out] using hown', below_next HB.out HO.out (Nat.le_refl _) hgrow⟩
          case measure => simp [intOf]; omega
    · have hcv := string_of_own (P := Tryz.prog) (src := 22) (dst := 9) Tryz.underlying22 Tryz.underlying5 Tryz.underlying9 HO.out
      go_wp2
      go_ret
      refine ⟨?_, HB.out⟩
      rw [List.take_of_length_le (by simp; omega)]
      rfl
theorem up_cls (b : UInt8) : upB b = (cls b.toNat == 6) := by
  have h : ∀ n : Fin 256, upB (UInt8.ofNat n) = (cls n == 6) := by decide +kernel
  have := h ⟨b.toNat, b.toNat_lt⟩
  simpa using this
/-- The bytes of s in block B, folded up to place pos. -/
def HalfFold (w : World) (B : Nat) (s : ByteArray) (pos : Nat) : Prop :=
  (∀ j (h : j < s.size), w.cell? ⟨B, j, none⟩ = some (byteV (if j < pos then lowB (s[j]'h) else s[j]'h))) ∧ ∀ j, j < s.size → w.frozen? ⟨B, j, none⟩ = false
theorem HalfFold.of_block {w w' : World} {B : Nat} {s : ByteArray} {pos : Nat} (h : HalfFold w B s pos) (hb : w'.heap[B]? = w.heap[B]?) : HalfFold w' B s pos :=
  ⟨fun j hj => (World.cell?_of_block (a := ⟨B, j, none⟩) hb).trans (h.1 j hj), fun j hj => (World.frozen?_of_block (a := ⟨B, j, none⟩) hb).trans (h.2 j hj)⟩
theorem HalfFold.skip {w : World} {B : Nat} {s : ByteArray} {pos n : Nat} (h : HalfFold w B s pos) (hn : ∀ j (hj : j < s.size), pos ≤ j → j < pos + n → lowB (s[j]'hj) = s[j]'hj) : HalfFold w B s (pos + n) :=
  ⟨fun j hj => by
    rw [h.1 j hj]
    by_cases h1 : j < pos
    · rw [if_pos h1, if_pos (by omega)]
    · by_cases h2 : j < pos + n
      · rw [if_neg h1, if_pos h2, hn j hj (by omega) h2]
      · rw [if_neg h1, if_neg h2], h.2⟩
theorem HalfFold.put {w : World} {B : Nat} {s : ByteArray} {pos : Nat} (h : HalfFold w B s pos) (hp : pos < s.size) {v : Value} (hv : v = byteV (lowB (s[pos]'hp))) : HalfFold (w.setCell ⟨B, pos, none⟩ v) B s (pos + 1) := by
  refine ⟨fun j hj => ?_, fun j hj => by rw [World.frozen?_setCell]; exact h.2 j hj⟩
  by_cases e : j = pos
  · subst e
    have := h.1 j hj
    rw [World.cell?_setCell_same _ _ _ this, hv, if_pos (by omega)]
  · have hne : (⟨B, pos, none⟩ : Addr) ≠ ⟨B, j, none⟩ := by
      intro h'
      injection h' with _ h2
      exact e h2.symm
    rw [World.cell?_setCell_other _ _ _ _ hne, h.1 j hj]
    by_cases h1 : j < pos
    · rw [if_pos h1, if_pos (by omega)]
    · rw [if_neg h1, if_neg (by omega)]
def FoldRelI (w : World) (s : ByteArray) (wr : World) : Prop :=
  ∃ pos : Nat, pos ≤ s.size ∧ wr.heap[w.heap.size + 1]? = some (.stringIter s pos) ∧ HalfFold wr w.heap.size s pos ∧ Below w.heap.size w wr
set_option maxRecDepth 100000 in
theorem implFold (s : ByteArray) (w : World) (hs : s.size ≤ maxLen) (hT : TabAt w) : Calls Tryz.prog 77 #[.string s] w fun e w' => e = .returned (.string (foldB s)) ∧ Below w.heap.size w w' := by
  unfold maxLen at hs
  have HT := Lib.hid hT
  clear hT
  by_cases hl : s.size ≤ 65536
  · have HF : Hid (foldB s = foldL s.data.toList) := if_pos hl
    have hcv := run_bytes_of_string (P := Tryz.prog) w 9 22 5 s Tryz.underlying9 Tryz.underlying22 Tryz.underlying5
    have hrow := fun j hj => bytesRow_at s (grownCap w s.size 0 5) j hj
    generalize hcap : grownCap w s.size 0 5 = cap at hcv hrow
    have hrs : s.size ≤ (bytesRow s cap).size := by
      simp [bytesRow]
    generalize hbl : bytesRow s cap = row at hcv hrow hrs
    have HR := Lib.hid hrow
    clear hrow hcap hbl
    go_enter Tryz.func77, Tryz.ntmps77
    go_wp2
    go_loopw [] (fun wr => FoldRelI w s wr) (fun wr => s.size - wr.iterPos (w.heap.size + 1))
    case atStart =>
      refine ⟨0, Nat.zero_le _, ?_, ⟨fun j hj => ?_, fun j hj => ?_⟩, ?_⟩
      · have h := World.iter_heap (w.alloc (.cells row 5 (row.size, row.size + 1))).drew s 0
        rw [show (w.alloc (.cells row 5 (row.size, row.size + 1))).drew.heap.size = w.heap.size + 1 by simp] at h
        exact h
      · have h := HR.out j (by simpa using hj)
        rw [if_neg (by omega)]
        have e1 := World.cell?_of_block (a := ⟨w.heap.size, j, none⟩) (Below.heap_alloc (w.alloc (.cells row 5 (row.size, row.size + 1))).drew (.stringIter s 0) w.heap.size (by simp))
        refine e1.trans ?_
        exact (World.cell?_alloc_mark w row 5 _ j).trans h
      · have e1 := World.frozen?_of_block (a := ⟨w.heap.size, j, none⟩) (Below.heap_alloc (w.alloc (.cells row 5 (row.size, row.size + 1))).drew (.stringIter s 0) w.heap.size (by simp))
        refine e1.trans ?_
        refine (World.frozen?_alloc_mark w row 5 _ _ j).trans ?_
        rw [decide_eq_false (by omega)]
        rfl
      · exact ((Below.refl _ _).alloc (Nat.le_refl _) _).drew.alloc (by simp) _
    case round =>
      obtain ⟨pos, hk, hit, hhf, hb⟩ := hrel
      have HH := Lib.hid hhf
      have HB := Lib.hid hb
      have HI := Lib.hid hit
      have hsz := hb.size
      clear hhf hb hit
      by_cases hp : pos < s.size
      · obtain ⟨X, hX⟩ : ∃ X, X = wr.iterAt (w.heap.size + 1) s (pos + (Utf8.decode s pos).2) := ⟨_, rfl⟩
        have hnx : ∀ ty, (Instr.next (.pointer (some ⟨w.heap.size + 1, 0, none⟩)) true ty).run Tryz.prog wr = .ok (.tuple #[.bool true, .int .i64 pos, .int .i32 (Utf8.decode s pos).1]) X := fun ty => by
          rw [hX]
          exact Lib.run_next_any_at wr (w.heap.size + 1) s pos ty HI.out hp
        have HX1 : Hid (X.heap[w.heap.size + 1]? = some (.stringIter s (pos + (Utf8.decode s pos).2))) := by
          rw [hX]
          exact Lib.iterAt_heap wr _ s pos _ HI.out
        have HX2 : Hid (HalfFold X w.heap.size s pos) := by
          rw [hX]
          exact HH.out.of_block (Lib.iterAt_other _ _ _ _ _ (by omega))
        have HX3 : Hid (Below w.heap.size w X) := by
          rw [hX]
          exact Lib.below_iterAt HB.out (by omega) _ _
        clear hX
        have hmx := decode_max s pos
        cases hc : (cls (Utf8.decode s pos).1 == 6) with
        | true =>
          have ha : (s[pos]'hp).toNat < 128 := by
            rcases rune_cases s pos hp with ⟨h, _⟩ | ⟨_, h⟩
            · exact h
            · rw [cls_high h] at hc; cases hc
          have hdec := decode_ascii s pos hp ha
          have hup : upB (s[pos]'hp) = true := by
            rw [up_cls]
            rw [hdec] at hc
            exact hc
          have hub : 65 ≤ (s[pos]'hp).toNat ∧ (s[pos]'hp).toNat ≤ 90 := by simpa [upB] using hup
          obtain ⟨hu1, hu2⟩ := hub
          have HD := Lib.hid hdec
          have hcell : X.cell? ⟨w.heap.size, pos, none⟩ = some (.int .u8 (s[pos]'hp).toNat) := by
            have := HX2.out.1 pos hp
            rw [if_neg (by omega)] at this
            exact this
          have hfz : X.frozen? ⟨w.heap.size, pos, none⟩ = false := HX2.out.2 pos hp
          clear hdec hup ha
          go_wp2_with (go_at_call 165; refine (classOf_any _ _ hmx (HT.out.below HX3.out)).mono ?_; rintro e w' ⟨rfl, rfl⟩)
          go_roundw
          case rel =>
            have h2 := HX1.out
            rw [HD.out] at h2
            refine ⟨pos + 1, hp, ?_, HX2.out.put hp ?_, HX3.out.setCell (Nat.le_refl _) _⟩
            · rw [Below.heap_setCell _ _ _ _ (by simp)]
              exact h2
            · rw [byteV, low_up hu1 hu2]
              rfl
          case measure =>
            have h2 := HX1.out
            rw [HD.out] at h2
            have m1 : (X.setCell ⟨w.heap.size, pos, none⟩ (.int .u8 ((s[pos]'hp).toNat + 32))).iterPos (w.heap.size + 1) = pos + 1 := iterPos_of (by
              rw [Below.heap_setCell _ _ _ _ (by simp)]
              exact h2)
            rw [m1, iterPos_of HI.out]
            omega
        | false =>
          have hlow : ∀ j (hj : j < s.size), pos ≤ j → j < pos + (Utf8.decode s pos).2 → lowB (s[j]'hj) = s[j]'hj := by
            intro j hj h1 h2
            by_cases ha : (s[pos]'hp).toNat < 128
            · rw [decode_ascii s pos hp ha] at h2 hc
              obtain rfl : j = pos := by simp at h2; omega
              rw [← up_cls] at hc
              rw [lowB, if_neg (by rw [hc]; simp)]
            · have := (decode_skip s pos hp (by omega)).2 j hj h1 h2
              exact low_other (by omega)
          have hend : pos + (Utf8.decode s pos).2 ≤ s.size := by
            by_cases ha : (s[pos]'hp).toNat < 128
            · rw [decode_ascii s pos hp ha]
              exact hp
            · exact (decode_skip s pos hp (by omega)).1
          have HL := Lib.hid hlow
          have hwd := width_pos s pos hp
          clear hlow
          go_wp2_with (go_at_call 165; refine (classOf_any _ _ hmx (HT.out.below HX3.out)).mono ?_; rintro e w' ⟨rfl, rfl⟩)
          go_roundw
          case rel => exact ⟨pos + (Utf8.decode s pos).2, hend, HX1.out, HX2.out.skip HL.out, HX3.out⟩
          case measure =>
            rw [iterPos_of HX1.out, iterPos_of HI.out]
            omega
      · have hnx : ∀ ty, (Instr.next (.pointer (some ⟨w.heap.size + 1, 0, none⟩)) true ty).run Tryz.prog wr = .ok (.tuple #[.bool false]) wr := fun ty => Lib.run_next_end_at wr (w.heap.size + 1) s pos ty HI.out hp
        have hcv2 := run_convert_bytes_back (P := Tryz.prog) wr 22 9 5 ⟨w.heap.size, 0, none⟩ cap (s.data.toList.map lowB) Tryz.underlying22 Tryz.underlying5 Tryz.underlying9 (fun j hj => by
          have hj' : j < s.size := by simpa using hj
          rw [add_off, HH.out.1 j hj', if_pos (by omega)]
          simp [byteV]
          rfl)
        rw [show (s.data.toList.map lowB).length = s.size by simp] at hcv2
        go_wp2
        go_ret
        exact ⟨by rw [HF.out]; rfl, HB.out⟩
  · have HF : Hid (foldB s = ⟨#[]⟩) := if_neg hl
    go_enter Tryz.func77, Tryz.ntmps77
    go_wp2
    go_ret
    exact ⟨by rw [HF.out]; rfl, Below.refl _ _⟩
end Go.Proofs.YtpdonghdnaehhaaGreatDoor
