/- Fold of the program and of the model: what they answer; the law's walk. No condition of its own. -/
import Derived.Test.YtcaabnnkjnleeaaGreatDoorDecimal
import Derived.Laws.AppendOwn
import Derived.Laws.IdiomStrings
import Derived.Lib.BufferRead
import Derived.WalkSmall
import Derived.OwnWalk
namespace Go.Proofs.YtcaabnnkjnleeaaGreatDoor
open Go.ChangeShapes Go.WideShapes Go.ChangeAt Go.WideMaps Go.WideElems Go.RowKit

def upB (b : UInt8) : Bool := decide (65 ≤ b.toNat ∧ b.toNat ≤ 90)
def lowB (b : UInt8) : UInt8 := if upB b then b + 32 else b
def foldL (l : List UInt8) : ByteArray := ⟨(l.map lowB).toArray⟩
def foldB (s : ByteArray) : ByteArray := if s.size ≤ 65536 then foldL s.data.toList else ⟨#[]⟩
def byteV (b : UInt8) : Value := .int .u8 b.toNat
theorem low_up {b : UInt8} (h1 : 65 ≤ b.toNat) (h2 : b.toNat ≤ 90) : (lowB b).toNat = b.toNat + 32 := by
  have : upB b = true := by simp [upB]; omega
  rw [lowB, if_pos this, UInt8.toNat_add]
  show (b.toNat + 32) % 256 = _
  omega
theorem low_other {b : UInt8} (h : ¬ (65 ≤ b.toNat ∧ b.toNat ≤ 90)) : lowB b = b := by
  have : ¬ upB b = true := by simp [upB]; omega
  rw [lowB, if_neg this]

theorem add_off (g j : Nat) : Addr.add ⟨g, 0, none⟩ j = ⟨g, j, none⟩ := by
  cases j <;> simp [Addr.add]
/-- The one cell of a block just made. -/
theorem new_cell (w : World) (x : Value) (t : TypeId) : ∀ (j : Nat) (u : Value), [x][j]? = some u → (w.alloc (.cells #[x] t)).cell? (Addr.add ⟨w.heap.size, 0, none⟩ j) = some u := by
  intro j u h
  cases j with
  | zero =>
    obtain rfl : x = u := by simpa using h
    rw [add_off, World.cell?_alloc_at _ _ _ _ rfl]
    rfl
  | succ j => simp at h
theorem one_int (k : IntKind) (n : Int) : ∀ u ∈ [Value.int k n], u.oneCell' = true := by
  intro u h
  obtain rfl : u = Value.int k n := by simpa using h
  rfl
theorem below_next {w wr w1 : World} {o : Obj} {v : Value} {base e size n : Nat} {xs : List Value} (hb : Below w.heap.size w wr) (hown : wr.ownsRow base e size v n xs) (hbase : w.heap.size ≤ base) (hg : (wr.alloc o).grownBy w1 v.ownBlock) : Below w.heap.size w w1 := by
  refine (hb.alloc hb.size o).grown hg (by have := hb.size; simp; omega) fun k hk => ?_
  obtain ⟨_, h | ⟨g, cap, cur, rfl, hge, _⟩⟩ := hown
  · obtain ⟨rfl, _⟩ := h
    cases hk
  · cases hk
    exact Nat.le_trans hbase hge
/-- 'string(b)' of a row of the call's own bytes. -/
theorem string_of_own {P : Program} {w : World} {base e src dst : Nat} {v : Value} {n : Nat} {l : List UInt8} (hs : P.underlying src = some (.slice e)) (he : P.underlying e = some (.int .u8)) (hd : P.underlying dst = some .string)
    (h : w.ownsRow base e 1 v n (l.map byteV)) : (convert src dst v).run P w = .ok (.string ⟨l.toArray⟩) w := by
  obtain ⟨hl, h | ⟨g, cap, cur, rfl, _, hg, _, _, _, hc⟩⟩ := h
  · obtain ⟨rfl, rfl⟩ := h
    have : l = [] := by
      cases l with
      | nil => rfl
      | cons _ _ => simp at hl
    subst this
    exact Lib.run_convert_nil_bytes w src dst e 0 hs he hd
  · have hn : n = l.length := by simpa using hl.symm
    subst hn
    refine run_convert_bytes_back w src dst e ⟨g, 0, none⟩ cap l hs he hd fun j hj => ?_
    have h1 : cur.toList[j]? = some (byteV l[j]) := by
      have := congrArg (·[j]?) hc
      simp only [Nat.mul_one, List.getElem?_take, hj, if_true] at this
      rw [this]
      simp [hj]
    have h2 : cur[j]? = some (byteV l[j]) := by simpa using h1
    rw [add_off]
    simp only [World.cell?, hg]
    exact h2

theorem info_byte : (Tryz.prog.info? 5).map (fun i => (i.zero, i.size, i.bytes)) = some (some (.int .u8 0), 1, 1) := by kernel_rfl
def FoldRel (w : World) (s : ByteArray) (v i : Value) (wr : World) : Prop :=
  ∃ k : Nat, k ≤ s.size ∧ i = .int .i64 k ∧ wr.ownsRow w.heap.size 5 1 v k (((s.data.toList.take k).map lowB).map byteV) ∧ Below w.heap.size w wr
theorem up_cls (b : UInt8) : upB b = (cls b.toNat == 6) := by
  have h : ∀ n : Fin 256, upB (UInt8.ofNat n) = (cls n == 6) := by decide +kernel
  have := h ⟨b.toNat, b.toNat_lt⟩
  simpa using this
/-- The bytes of s in block B, folded up to place pos. -/
def HalfFold (w : World) (B : Nat) (s : ByteArray) (pos : Nat) : Prop :=
  (∀ j (h : j < s.size), w.cell? ⟨B, j, none⟩ = some (byteV (if j < pos then lowB (s[j]'h) else s[j]'h))) ∧ ∀ j, j < s.size → w.frozen? ⟨B, j, none⟩ = false
theorem HalfFold.of_block {w w' : World} {B : Nat} {s : ByteArray} {pos : Nat} (h : HalfFold w B s pos) (hb : w'.heap[B]? = w.heap[B]?) : HalfFold w' B s pos :=
  ⟨fun j hj => (World.cell?_of_block (a := ⟨B, j, none⟩) hb).trans (h.1 j hj), fun j hj => (World.frozen?_of_block (a := ⟨B, j, none⟩) hb).trans (h.2 j hj)⟩
theorem HalfFold.skip {w : World} {B : Nat} {s : ByteArray} {pos n : Nat} (h : HalfFold w B s pos) (hn : ∀ j (hj : j < s.size), pos ≤ j → j < pos + n → lowB (s[j]'hj) = s[j]'hj) : HalfFold w B s (pos + n) :=
  ⟨fun j hj => by
    rw [h.1 j hj]
    by_cases h1 : j < pos
    · rw [if_pos h1, if_pos (by omega)]
    · by_cases h2 : j < pos + n
      · rw [if_neg h1, if_pos h2, hn j hj (by omega) h2]
      · rw [if_neg h1, if_neg h2], h.2⟩
theorem HalfFold.put {w : World} {B : Nat} {s : ByteArray} {pos : Nat} (h : HalfFold w B s pos) (hp : pos < s.size) {v : Value} (hv : v = byteV (lowB (s[pos]'hp))) : HalfFold (w.setCell ⟨B, pos, none⟩ v) B s (pos + 1) := by
  refine ⟨fun j hj => ?_, fun j hj => by rw [World.frozen?_setCell]; exact h.2 j hj⟩
  by_cases e : j = pos
  · subst e
    have := h.1 j hj
    rw [World.cell?_setCell_same _ _ _ this, hv, if_pos (by omega)]
  · have hne : (⟨B, pos, none⟩ : Addr) ≠ ⟨B, j, none⟩ := by
      intro h'
      injection h' with _ h2
      exact e h2.symm
    rw [World.cell?_setCell_other _ _ _ _ hne, h.1 j hj]
    by_cases h1 : j < pos
    · rw [if_pos h1, if_pos (by omega)]
    · rw [if_neg h1, if_neg (by omega)]
def FoldRelI (w : World) (s : ByteArray) (wr : World) : Prop :=
  ∃ pos : Nat, pos ≤ s.size ∧ wr.heap[w.heap.size + 1]? = some (.stringIter s pos) ∧ HalfFold wr w.heap.size s pos ∧ Below w.heap.size w wr
end Go.Proofs.YtcaabnnkjnleeaaGreatDoor
