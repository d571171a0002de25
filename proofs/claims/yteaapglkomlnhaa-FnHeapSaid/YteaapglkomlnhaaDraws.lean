/- The model's source of drawn choices: each choice is a number in its range, and only the source's own block is written. The source has been asked fewer than a million times. -/
import Derived.Test.YteaapglkomlnhaaBase
import Derived.Laws.AppendOwn
import Derived.Deep.QuietTactic
import Derived.BigQuiet
import Derived.BigRegion
import Derived.Deep.RegionHeld
import Derived.RegionTactic
import Derived.WalkSmall
import Derived.StillTailTactics
import Derived.IntWalk
namespace Go.Proofs.Yteaapglkomlnhaa
open Go.ChangeShapes Go.WideShapes Go.ChangeAt Go.WideMaps Go.WideElems Go.RowKit

theorem heap_set_at {w : World} {b : Nat} {cs : Array Value} {t : TypeId} {fr : Nat × Nat} (h : w.heap[b]? = some (.cells cs t fr)) (i : Nat) (v : Value) : (w.setCell ⟨b, i, none⟩ v).heap[b]? = some (.cells (cs.setIfInBounds i v) t fr) := by
  simp only [World.setCell, Array.getElem?_modify, if_true, h]
  rfl
theorem grown_refl (w : World) (r : Option Nat) : w.grownBy w r := ⟨rfl, rfl, rfl, Nat.le_refl _, fun _ _ _ => rfl⟩
theorem grown_trans {a b c : World} {r : Option Nat} (h : a.grownBy b r) (k : b.grownBy c r) : a.grownBy c r :=
  ⟨k.os.trans h.os, k.tape.trans h.tape, k.output.trans h.output, Nat.le_trans h.size k.size, fun i hi hr => (k.block i (Nat.lt_of_lt_of_le hi h.size) hr).trans (h.block i hi hr)⟩
theorem grown_set (w : World) (b i : Nat) (v : Value) : w.grownBy (w.setCell ⟨b, i, none⟩ v) (some b) :=
  ⟨rfl, rfl, rfl, by simp [World.setCell], fun k _ hr => Below.heap_setCell _ _ _ _ (fun e => hr (by rw [e]))⟩
theorem grown_drewN (w : World) (r : Option Nat) (n : Nat) : w.grownBy (w.drewN n) r := ⟨rfl, rfl, rfl, Nat.le_refl _, fun _ _ _ => rfl⟩
theorem grown_drew1 (w : World) (r : Option Nat) : w.grownBy w.drew r := ⟨rfl, rfl, rfl, Nat.le_refl _, fun _ _ _ => rfl⟩
/-- A slice of bytes that can be read: nil or empty, or at an address with its cells, none of them in block b. -/
def CodeAt (w : World) (b : Nat) (v : Value) (len : Nat) : Prop :=
  len ≤ 4611686018427387904 ∧ ∃ (a : Option Addr) (cap : Nat), v = .slice a len cap ∧ (0 < len → ∃ cb off, a = some ⟨cb, off, none⟩ ∧ cb ≠ b ∧ cb < w.heap.size ∧ ∀ j, j < len → ∃ z : Int, 0 ≤ z ∧ z ≤ 255 ∧ w.cell? ⟨cb, off + j, none⟩ = some (.int .u8 z))
theorem CodeAt.kept {w w' : World} {b : Nat} {v : Value} {len : Nat} (h : CodeAt w b v len) (hg : w.grownBy w' (some b)) : CodeAt w' b v len := by
  obtain ⟨hl, a, cap, rfl, h⟩ := h
  refine ⟨hl, a, cap, rfl, fun h0 => ?_⟩
  obtain ⟨cb, off, rfl, hne, hlt, hc⟩ := h h0
  refine ⟨cb, off, rfl, hne, Nat.lt_of_lt_of_le hlt hg.size, fun j hj => ?_⟩
  obtain ⟨z, h1, h2, h3⟩ := hc j hj
  exact ⟨z, h1, h2, (World.cell?_of_block (a := ⟨cb, off + j, none⟩) (hg.block cb hlt (by simpa using hne))).trans h3⟩
/-- The source lies in block b, asked n times. -/
def Src (b : Nat) (v : Value) (len : Nat) (n : Nat) (w : World) : Prop :=
  CodeAt w b v len ∧ ∃ seed : Int, 0 ≤ seed ∧ seed < 2147483648 ∧ w.heap[b]? = some (.cells #[v, .int .i64 n, .int .i64 seed] 84 (0, 0))
theorem Src.cells {b : Nat} {v : Value} {n : Nat} {w : World} {seed : Int} (h : w.heap[b]? = some (.cells #[v, .int .i64 n, .int .i64 seed] 84 (0, 0))) :
    w.cell? ⟨b, 0, none⟩ = some v ∧ w.cell? ⟨b, 1, none⟩ = some (.int .i64 n) ∧ w.cell? ⟨b, 2, none⟩ = some (.int .i64 seed) ∧ w.frozen? ⟨b, 1, none⟩ = false ∧ w.frozen? ⟨b, 2, none⟩ = false := by
  refine ⟨?_, ?_, ?_, ?_, ?_⟩ <;> simp [World.cell?, World.frozen?, h]
def SrcNum (b : Nat) (v : Value) (len n : Nat) (hi : Nat) (w : World) (e : Ending) (w' : World) : Prop :=
  ∃ r : Nat, e = .returned (.int .i64 r) ∧ r ≤ hi ∧ Src b v len n w' ∧ w.grownBy w' (some b)
theorem srcNum_mk {b : Nat} {v : Value} {len n hi : Nat} {w w' : World} {x : Int} (h0 : 0 ≤ x) (h1 : x ≤ hi) (hs : Src b v len n w') (hg : w.grownBy w' (some b)) : SrcNum b v len n hi w (.returned (.int .i64 x)) w' :=
  ⟨x.toNat, by rw [Int.toNat_of_nonneg h0], by omega, hs, hg⟩
theorem Src.lt {b : Nat} {v : Value} {len n : Nat} {w : World} (h : Src b v len n w) : b < w.heap.size := by
  obtain ⟨_, _, _, _, h⟩ := h
  exact (Array.getElem?_eq_some_iff.1 h).1
theorem src_of {b : Nat} {v : Value} {len n : Nat} {w w' : World} {seed : Int} (hc : CodeAt w b v len) (hg : w.grownBy w' (some b)) (h0 : 0 ≤ seed) (h1 : seed < 2147483648) (hb : w'.heap[b]? = some (.cells #[v, .int .i64 n, .int .i64 seed] 84 (0, 0))) : Src b v len n w' :=
  ⟨hc.kept hg, seed, h0, h1, hb⟩
set_option maxHeartbeats 1000000 in
set_option maxRecDepth 100000 in
theorem byte_any (b : Nat) (v : Value) (len n : Nat) (w : World) (hn : n < 1000000) (h : Src b v len n w) : Calls Try.prog 77 #[.pointer (some ⟨b, 0, none⟩)] w (SrcNum b v len (n + 1) 255 w) := by
  obtain ⟨hcode, seed, hs0, hs1, hblk⟩ := h
  obtain ⟨hc0, hc1, hc2, hf1, hf2⟩ := Src.cells hblk
  have HC := Lib.hid hcode
  obtain ⟨hl, a, cap, hv, hcells⟩ := hcode
  have HV := Lib.hid hv
  have hq : Hid ((w.setCell ⟨b, 1, none⟩ (.int .i64 (n + 1))).heap[b]? = some (.cells #[.slice a len cap, .int .i64 (n + 1), .int .i64 seed] 84 (0, 0))) := by
    show (w.setCell ⟨b, 1, none⟩ (.int .i64 (n + 1))).heap[b]? = some (.cells #[.slice a len cap, .int .i64 (n + 1), .int .i64 seed] 84 (0, 0))
    rw [heap_set_at hblk, hv]
    rfl
  have hg : Hid (w.grownBy (w.setCell ⟨b, 1, none⟩ (.int .i64 (n + 1))) (some b)) := grown_set _ _ _ _
  rw [hv] at hc0
  clear hblk hv
  by_cases hin : n < len
  · obtain ⟨cb, off, rfl, hne, hlt, hz⟩ := hcells (by omega)
    obtain ⟨z, hz0, hz1, hcz⟩ := hz n hin
    clear hz hcells
    go_enter Try.func77, Try.ntmps77
    go_wp2
    go_quiet (fail)
    go_wp2
    have hz2 : (w.setCell ⟨b, 1, none⟩ (.int .i64 (n + 1))).cell? ⟨cb, off + n, none⟩ = some (.int .u8 z) := by
      rw [World.cell?_setCell_far _ _ _ _ (by simpa using Ne.symm hne)]
      exact hcz
    generalize hW : w.setCell ⟨b, 1, none⟩ (.int .i64 (n + 1)) = w1 at *
    generalize hW2 : w1.drewN _ = w2
    have hq2 : w2.heap[b]? = some (.cells #[.slice (some ⟨cb, off, none⟩) len cap, .int .i64 (n + 1), .int .i64 seed] 84 (0, 0)) := by rw [← hW2]; exact hq.out
    have hz3 : w2.cell? ⟨cb, off + n, none⟩ = some (.int .u8 z) := by rw [← hW2]; exact hz2
    have HG2 : Hid (w.grownBy w2 (some b)) := by
      show w.grownBy w2 (some b)
      rw [← hW2]
      exact grown_trans hg.out (grown_drewN _ _ _)
    obtain ⟨k0, k1, k2, kf1, kf2⟩ := Src.cells (n := n + 1) hq2
    have HQ := Lib.hid hq2
    clear hW hW2 hq hq2 hz2 hg hc0 hc1 hc2 hf1 hf2 hcz
    go_region
    go_wp2
    go_quiet (fail)
    go_wp2
    go_ret
    refine srcNum_mk (x := z) hz0 (by omega) ?_ ?_
    · refine src_of (seed := (seed * 31 + z + 7) % 2147483648) HC.out (grown_trans HG2.out (grown_trans (grown_set _ _ _ _) (grown_trans (grown_drew1 _ _) (grown_drewN _ _ _)))) (by omega) (by omega) ?_
      rw [HV.out]
      exact (heap_set_at HQ.out 2 _)
    · exact grown_trans HG2.out (grown_trans (grown_set _ _ _ _) (grown_trans (grown_drew1 _ _) (grown_drewN _ _ _)))
  · by_cases h3 : 3000 < (n : Int) + 1
    · go_enter Try.func77, Try.ntmps77
      go_wp2
      go_quiet (fail)
      go_wp2
      go_ret
      refine srcNum_mk (x := 0) (by omega) (by omega) ?_ (grown_trans hg.out (grown_drewN _ _ _))
      refine src_of HC.out (grown_trans hg.out (grown_drewN _ _ _)) hs0 hs1 ?_
      rw [HV.out]
      exact hq.out
    · have hm : Hid (0 ≤ (seed * 1103515245 + 12345) % 2147483648 ∧ (seed * 1103515245 + 12345) % 2147483648 < 2147483648) := by
        constructor <;> omega
      go_enter Try.func77, Try.ntmps77
      go_wp2
      go_quiet (fail)
      go_wp2
      go_ret
      have hg2 : ∀ q, w.grownBy (((w.setCell ⟨b, 1, none⟩ (.int .i64 (n + 1))).drewN q).setCell ⟨b, 2, none⟩ (.int .i64 ((seed * 1103515245 + 12345) % 2147483648))) (some b) := fun q => grown_trans hg.out (grown_trans (grown_drewN _ _ _) (grown_set _ _ _ _))
      refine srcNum_mk (x := (seed * 1103515245 + 12345) % 2147483648 / 65536 % 256) (by omega) (by omega) ?_ (hg2 _)
      refine src_of HC.out (hg2 _) hm.out.1 hm.out.2 ?_
      rw [HV.out]
      exact heap_set_at (w := (w.setCell ⟨b, 1, none⟩ (.int .i64 (n + 1))).drewN _) hq.out 2 _
theorem next_small (b : Nat) (v : Value) (len n : Nat) (w : World) (m : Nat) (hm : 2 ≤ m) (hm2 : m ≤ 256) (hn : n < 1000000) (h : Src b v len n w) : Calls Try.prog 69 #[.pointer (some ⟨b, 0, none⟩), .int .i64 m] w (SrcNum b v len (n + 1) (m - 1) w) := by
  have HS := Lib.hid h
  clear h
  go_enter Try.func69, Try.ntmps69
  go_wp2_with (go_at_call 77; refine (byte_any b v len n _ hn HS.out).mono ?_; rintro e w' ⟨r, rfl, hr1, hsrc, hg⟩; have HX := Lib.hid hsrc; have HG := Lib.hid hg; clear hsrc hg)
  go_ret
  exact srcNum_mk (x := (r : Int) % m) (Int.emod_nonneg _ (by omega)) (by have := Int.emod_lt_of_pos (r : Int) (show (0 : Int) < m by omega); omega) HX.out HG.out
def SrcText (b : Nat) (v : Value) (len n : Nat) (ss : List ByteArray) (w : World) (e : Ending) (w' : World) : Prop :=
  ∃ s ∈ ss, e = .returned (.string s) ∧ Src b v len n w' ∧ w.grownBy w' (some b)

/-- A slice of bytes that can be read. -/
def CodeIn (w : World) (v : Value) (len : Nat) : Prop :=
  len ≤ 4611686018427387904 ∧ ∃ (a : Option Addr) (cap : Nat), v = .slice a len cap ∧ (0 < len → ∃ cb off, a = some ⟨cb, off, none⟩ ∧ cb < w.heap.size ∧ ∀ j, j < len → ∃ z : Int, 0 ≤ z ∧ z ≤ 255 ∧ w.cell? ⟨cb, off + j, none⟩ = some (.int .u8 z))
theorem CodeIn.below {w w' : World} {v : Value} {len : Nat} (h : CodeIn w v len) (hb : Below w.heap.size w w') : CodeIn w' v len := by
  obtain ⟨hl, a, cap, rfl, h⟩ := h
  refine ⟨hl, a, cap, rfl, fun h0 => ?_⟩
  obtain ⟨cb, off, rfl, hlt, hc⟩ := h h0
  refine ⟨cb, off, rfl, Nat.lt_of_lt_of_le hlt hb.size, fun j hj => ?_⟩
  obtain ⟨z, h1, h2, h3⟩ := hc j hj
  exact ⟨z, h1, h2, (hb.cell (p := ⟨cb, off + j, none⟩) hlt).trans h3⟩
/-- A new source behind all that is there. -/
theorem src_new {w w' : World} {v : Value} {len : Nat} {seed : Int} (h : CodeIn w v len) (h0 : 0 ≤ seed) (h1 : seed < 2147483648) (hw : w' = w.alloc (.cells #[v, .int .i64 0, .int .i64 seed] 84)) : Src w.heap.size v len 0 w' := by
  subst hw
  obtain ⟨hl, a, cap, rfl, h⟩ := h
  refine ⟨⟨hl, a, cap, rfl, fun h2 => ?_⟩, seed, h0, h1, heap_alloc_new _ _⟩
  obtain ⟨cb, off, rfl, hlt, hc⟩ := h h2
  refine ⟨cb, off, rfl, by omega, by simp; omega, fun j hj => ?_⟩
  obtain ⟨z, h3, h4, h5⟩ := hc j hj
  exact ⟨z, h3, h4, (World.cell?_alloc_past _ _ _ hlt).trans h5⟩
def DrawPost (w : World) (most : Nat) (e : Ending) (w' : World) : Prop := ∃ s : ByteArray, e = .returned (.string s) ∧ s.size ≤ most ∧ Below w.heap.size w w'
theorem below_of_own {w w1 w2 : World} (h : Below w.heap.size w w1) (hg : w1.grownBy w2 (some w.heap.size)) : Below w.heap.size w w2 :=
  h.grown hg h.size (fun k hk => by cases hk; exact Nat.le_refl _)
theorem source_any (v : Value) (len : Nat) (w : World) (h : CodeIn w v len) : Calls Try.prog 51 #[v] w fun e w' => e = .returned (.pointer (some ⟨w.heap.size, 0, none⟩)) ∧ Src w.heap.size v len 0 w' ∧ Below w.heap.size w w' := by
  have HC := Lib.hid h
  obtain ⟨hl, a, cap, rfl, _⟩ := h
  go_enter Try.func51, Try.ntmps51
  go_wp2
  go_ret
  refine ⟨rfl, src_new HC.out ?_ ?_ rfl, (Below.refl _ _).alloc (Nat.le_refl _) _⟩
  all_goals omega
def AtPost (w : World) (n : Nat) (e : Ending) (w' : World) : Prop := ∃ r : Nat, e = .returned (.int .i64 r) ∧ r < n ∧ ∃ q, w' = w.drewN q
theorem at_any (v : Value) (len i n : Nat) (w : World) (hn : 2 ≤ n) (hn2 : n ≤ 1000000) (hi : i ≤ 1000000) (h : CodeIn w v len) : Calls Try.prog 33 #[v, .int .i64 i, .int .i64 n] w (AtPost w n) := by
  obtain ⟨hl, a, cap, rfl, hcells⟩ := h
  by_cases h0 : 0 < len
  · obtain ⟨cb, off, rfl, hlt, hz⟩ := hcells h0
    have hm1 := Nat.mod_lt i h0
    have hm2 := Nat.mod_lt (i + 1) h0
    obtain ⟨z, hz0, hz1, hc1⟩ := hz (i % len) hm1
    obtain ⟨y, hy0, hy1, hc2⟩ := hz ((i + 1) % len) hm2
    clear hz hcells
    have hd := Nat.div_le_self i len
    obtain ⟨p, hp⟩ : ∃ p, p = i % len := ⟨_, rfl⟩
    obtain ⟨p2, hp2⟩ : ∃ p2, p2 = (i + 1) % len := ⟨_, rfl⟩
    obtain ⟨d, hdd⟩ : ∃ d, d = i / len := ⟨_, rfl⟩
    rw [← hp] at hm1 hc1
    rw [← hp2] at hm2 hc2
    rw [← hdd] at hd
    have n0 : ¬ (len : Int) = 0 := by omega
    have n1 : ¬ (n : Int) = 0 := by omega
    have g1 : (0 : Int) ≤ p ∧ (p : Int) < len := by omega
    have g2 : (0 : Int) ≤ p2 ∧ (p2 : Int) < len := by omega
    have s0 : IntKind.i64.wrap ((i : Int) + 1) = (i : Int) + 1 := IntWalk.i64_in _ (by omega)
    have s1 : IntKind.i64.wrap (z * 31) = z * 31 := IntWalk.i64_in _ (by omega)
    have s2 : IntKind.i64.wrap (z * 31 + y) = z * 31 + y := IntWalk.i64_in _ (by omega)
    have s3 : IntKind.i64.wrap (z * 31 + y + (d : Int)) = z * 31 + y + (d : Int) := IntWalk.i64_in _ (by omega)
    have sd : IntKind.i64.wrap (d : Int) = d := IntWalk.i64_in _ (by omega)
    have d1 : Op.intDiv .rem .i64 (i : Int) (len : Int) = pure (.int .i64 (p : Int)) := by rw [Op.intDiv, if_neg n0, hp]; rfl
    have d2 : Op.intDiv .rem .i64 ((i : Int) + 1) (len : Int) = pure (.int .i64 (p2 : Int)) := by rw [Op.intDiv, if_neg n0, hp2]; rfl
    have d3 : Op.intDiv .quo .i64 (i : Int) (len : Int) = pure (.int .i64 (d : Int)) := by
      rw [Op.intDiv, if_neg n0, show (i : Int).tdiv (len : Int) = ((i / len : Nat) : Int) from rfl, ← hdd]
      show pure (Value.int .i64 (IntKind.i64.wrap (d : Int))) = _
      rw [sd]
    have hpos : 0 ≤ z * 31 + y + (d : Int) := by omega
    have d4 : Op.intDiv .rem .i64 (z * 31 + y + (d : Int)) (n : Int) = pure (.int .i64 ((z * 31 + y + (d : Int)) % n)) := by
      rw [Op.intDiv, if_neg n1]
      show pure (Value.int .i64 ((z * 31 + y + (d : Int)).tmod n)) = _
      rw [IntWalk.rem_in _ _ hpos]
    have e1 : ((p : Nat) : Int).toNat = p := rfl
    have e2 : ((p2 : Nat) : Int).toNat = p2 := rfl
    have h1 := Int.emod_nonneg (z * 31 + y + (d : Int)) n1
    have h2 := Int.emod_lt_of_pos (z * 31 + y + (d : Int)) (show (0 : Int) < n by omega)
    have H1 := Lib.hid h1
    have H2 := Lib.hid h2
    obtain ⟨g11, g12⟩ := g1
    obtain ⟨g21, g22⟩ := g2
    have t1 : (i : Int).tmod (len : Int) = (p : Int) := by rw [hp]; rfl
    have t2 : ((i : Int) + 1).tmod (len : Int) = (p2 : Int) := by rw [hp2]; rfl
    have t3 : (i : Int).tdiv (len : Int) = (d : Int) := by rw [hdd]; rfl
    have t4 : (z * 31 + y + (d : Int)).tmod n = (z * 31 + y + (d : Int)) % n := IntWalk.rem_in _ _ hpos
    have n2 : ¬ len = 0 := by omega
    have n3 : ¬ n = 0 := by omega
    clear hp hp2 hdd h1 h2 d1 d2 d3 d4
    go_enter Try.func33, Try.ntmps33
    go_wp2
    go_quiet (fail)
    go_wp2
    go_ret
    exact ⟨((z * 31 + y + (d : Int)) % n).toNat, by rw [Int.toNat_of_nonneg H1.out]; rfl, by have := H1.out; have := H2.out; omega, _, rfl⟩
  · obtain rfl : len = 0 := by omega
    clear hcells
    have hz : (i : Int) * 7 % n = ((i * 7 % n : Nat) : Int) := rfl
    have HZ := Lib.hid hz
    clear hz
    go_enter Try.func33, Try.ntmps33
    go_wp2
    go_ret
    exact ⟨i * 7 % n, by rw [← HZ.out]; rfl, Nat.mod_lt _ (by omega), 0, rfl⟩
/-- A slice of bytes that came in can be read. -/
theorem bytes_in {H : Type} {enc : TypeId × Value → H} {P : Program} {W : World} {base : Nat} {t e : TypeId} {v : Value} {d : DataW H} {ps : List MemPlace} (ht : P.underlying t = some (.slice e)) (he : P.underlying e = some (.int .u8)) (hc : P.cellsOf e = 1)
    (hv : Value.okWide P W .any base t v) (hd : DataW.Trod enc P W 0 (fun _ => true) true t v d ps) : ∃ (a : Option Addr) (len cap : Nat), v = .slice a len cap ∧ (len ≤ cap ∧ cap ≤ maxLen ∧ (a = none → cap = 0)) ∧ (len ≤ 4611686018427387904 → CodeIn W v len) := by
  obtain ⟨a, len, cap, rfl⟩ := okWide_slice ht hv
  obtain ⟨fuel, hf⟩ := hd
  refine ⟨a, len, cap, rfl, ?_⟩
  rcases open_ints ht he hc hf with ⟨hcs, _⟩ | ⟨a1, len1, cap1, zs, hcs, _, hl, hm, hz, _, hcell, hwf⟩
  · simp [Value.cells] at hcs
    obtain ⟨rfl, rfl, rfl⟩ := hcs
    exact ⟨⟨Nat.le_refl _, Nat.zero_le _, fun _ => rfl⟩, fun _ => ⟨Nat.zero_le _, none, 0, rfl, fun h => by omega⟩⟩
  · simp [Value.cells] at hcs
    obtain ⟨rfl, rfl, rfl⟩ := hcs
    simp only [if_true] at hz
    refine ⟨⟨hl, hm, fun h => by cases h⟩, fun hb => ⟨hb, some a1, cap, rfl, fun h0 => ?_⟩⟩
    obtain ⟨b, off, rfl, hc2⟩ := ints_at hcell (by omega)
    have h1 := World.block_lt_of_cell? W _ (hc2 0 (by omega))
    refine ⟨b, off, rfl, h1, fun j hj => ⟨_, ?_, ?_, hc2 j (by omega)⟩⟩
    · exact (range_u8 hwf j).1
    · exact (range_u8 hwf j).2
/-- 'string(x)' of a part of a slice that came in. -/
theorem part_string {W : World} {a : Option Addr} {len cap k : Nat} (h : CodeIn W (.slice a len cap) len) (hk : k ≤ len) : ∃ T : ByteArray, T.size = k ∧ ∀ w' cap', Below W.heap.size W w' → (convert 48 9 (.slice a k cap')).run Try.prog w' = .ok (.string T) w' := by
  obtain ⟨_, a2, cap2, hv, hc⟩ := h
  injection hv with e1 _ e2
  subst e1
  rcases Nat.eq_zero_or_pos k with rfl | hk0
  · refine ⟨⟨#[]⟩, rfl, fun w' cap' _ => ?_⟩
    show (convert 48 9 (.slice a 0 cap')).run Try.prog w' = .ok (.string ByteArray.empty) w'
    rw [run_convert_bytes_string w' 48 9 5 _ 0 cap' Try.underlying48 Try.underlying5 Try.underlying9]
    cases a <;> simp [Conv.bytesToString, loadCells, loadCellsFrom]
  · obtain ⟨cb, off, rfl, hlt, hz⟩ := hc (by omega)
    have hex : ∃ l : List UInt8, l.length = k ∧ ∀ j (hj : j < l.length), W.cell? ⟨cb, off + j, none⟩ = some (.int .u8 (l[j].toNat : Int)) := by
      clear hk0
      induction k with
      | zero => exact ⟨[], rfl, fun j hj => by cases hj⟩
      | succ k ih =>
        obtain ⟨l, hl, hl2⟩ := ih (by omega)
        obtain ⟨z, h0, h1, h2⟩ := hz k (by omega)
        refine ⟨l ++ [UInt8.ofNat z.toNat], by simp [hl], fun j hj => ?_⟩
        by_cases e : j < l.length
        · rw [List.getElem_append_left e]
          exact hl2 j e
        · have : j = k := by simp at hj; omega
          subst this
          rw [List.getElem_append_right (by omega)]
          simp [hl]
          rw [h2]
          congr 2
          omega
    obtain ⟨l, hl, hl2⟩ := hex
    refine ⟨⟨l.toArray⟩, by show l.toArray.size = k; simp [hl], fun w' cap' hb => ?_⟩
    have := run_convert_bytes_back (P := Try.prog) w' 48 9 5 ⟨cb, off, none⟩ cap' l Try.underlying48 Try.underlying5 Try.underlying9 (fun j hj => by
      have e : Addr.add ⟨cb, off, none⟩ j = ⟨cb, off + j, none⟩ := by cases j <;> simp [Addr.add]
      rw [e]
      exact (hb.cell (p := ⟨cb, off + j, none⟩) hlt).trans (hl2 j hj))
    rw [hl] at this
    exact this
end Go.Proofs.Yteaapglkomlnhaa
