/- A heap's copy, in the program. No condition of its own. -/
import Derived.Test.YteaapglkomlnhaaHpDownI
import Derived.Laws.CopyOwn
namespace Go.Proofs.Yteaapglkomlnhaa
open Go.ChangeShapes Go.WideShapes Go.ChangeAt Go.WideMaps Go.WideElems Go.RowKit

theorem copy_sl_run (w : World) (t1 ty : TypeId) (ht : Try.prog.underlying t1 = some (.slice 33)) (g n dCap : Nat) (a : Addr) (sCap : Nat) (cur : Array Value) (t : TypeId) (cs : List Value)
    (hg : w.heap[g]? = some (.cells cur t (0, 0))) (hcur : cur.size = n * 2) (hn : cs.length = n * 2) (hsrc : ∀ j v, cs[j]? = some v → w.cell? (a.add j) = some v) (h1 : ∀ v ∈ cs, v.oneCell' = true) :
    (Builtin.copy_ #[t1, t1] ty #[.slice (some ⟨g, 0, none⟩) n dCap, .slice (some a) n sCap]).run Try.prog w = .ok (goInt n) (w.setRow g cs.toArray) := by
  have hl := run_loadCells_list (P := Try.prog) w a cs hsrc
  have hst := run_storeCells_at Try.prog g 0 t cs 0 cur w hg (by omega) h1
  obtain ⟨i, hi, hzz⟩ := Option.map_eq_some_iff.1 info_slot
  simp only [Prod.mk.injEq] at hzz
  obtain ⟨_, hs, _⟩ := hzz
  rw [List.take_zero, List.nil_append, Nat.zero_add, List.drop_eq_nil_of_le (by simp; omega), List.append_nil] at hst
  rw [hn] at hl
  simp [Builtin.copy_, run_underlying ht, Builtin.lenOf, Builtin.firstCells, sizeOf, typeInfo, hi, hs, hl, hst]
theorem copy_sl_none (w : World) (t1 ty : TypeId) (ht : Try.prog.underlying t1 = some (.slice 33)) (d a : Option Addr) (dCap sCap : Nat) :
    (Builtin.copy_ #[t1, t1] ty #[.slice d 0 dCap, .slice a 0 sCap]).run Try.prog w = .ok (goInt 0) w := by
  obtain ⟨i, hi, _⟩ := Option.map_eq_some_iff.1 info_slot
  have hl : ∀ (x : Addr), (loadCells x 0).run Try.prog w = .ok #[] w := fun x => by simpa using run_loadCells_list (P := Try.prog) w x [] (by simp)
  cases d <;> cases a <;> simp [Builtin.copy_, run_underlying ht, Builtin.lenOf, Builtin.firstCells, sizeOf, typeInfo, hi, storeCells, hl]
theorem wpList_copy_sl {w : World} {ops : Array Oper} {rest : List Oper} {o : Oper} {a : Act} {Q : Exit → Act → World → Prop} (hgd : o.guard = none) (d s : Operand) (t1 : TypeId)
    (ho : o.op = .call { callee := .builtin .copy, args := #[d, s], argTypes := #[t1, t1] }) (ht : Try.prog.underlying t1 = some (.slice 33))
    (g n dCap : Nat) (oa : Option Addr) (sCap : Nat) (hd : a.eval d = .slice (some ⟨g, 0, none⟩) n dCap) (hs : a.eval s = .slice oa n sCap) (cur : Array Value) (t : TypeId) (hg : w.heap[g]? = some (.cells cur t (0, 0))) (hcur : cur.size = n * 2)
    (A B : Nat) (z : Bool) (rs : List Sl) (hsrc : SlsIn w A B z (.slice oa n sCap) rs)
    (h : ∀ w', w'.heap[g]? = some (.cells (cellsS rs).toArray t (0, 0)) → (∀ B0 w0, Below B0 w0 w → B0 ≤ g → Below B0 w0 w') → wpList Try.prog ops Q rest (a.put o.dst (goInt n)) w') : wpList Try.prog ops Q (o :: rest) a w := by
  refine wpList_plain hgd fun K hK => ?_
  rcases src_slots hsrc with ⟨rfl, he⟩ | ⟨hlen, ad, rfl, hnews⟩
  · have hrun := copy_sl_none w t1 o.type ht (some ⟨g, 0, none⟩) oa dCap sCap
    unfold Oper.wp
    simp [execOp, ho, resolve, invoke, builtin, hd, hs, hrun, Result.andThen]
    refine hK _ _ (h w ?_ fun _ _ hb _ => hb)
    rw [hg, he]
    have : cur = #[] := Array.eq_empty_of_size_eq_zero (by omega)
    rw [this]
  · have hrun := copy_sl_run w t1 o.type ht g n dCap ad sCap cur t (cellsS rs) hg hcur hlen hnews (one_cellsS rs)
    unfold Oper.wp
    simp [execOp, ho, resolve, invoke, builtin, hd, hs, hrun, Result.andThen]
    exact hK _ _ (h _ (setRow_heap w g _ _ t _ hg) fun _ _ hb hB => below_setRow hb hB _)
set_option maxRecDepth 100000 in
set_option maxHeartbeats 1000000 in
theorem clone_any (v : Value) (qs : List Sl) (A B : Nat) (z : Bool) (w : World) (hl : qs.length ≤ 1048576) (hBw : B ≤ w.heap.size) (hv : SlsIn w A B z v qs) : Calls Try.prog 64 #[v] w fun e w' => ∃ g, e = .returned (.slice (some ⟨g, 0, none⟩) qs.length qs.length) ∧ OwnSl w' w.heap.size g qs.length qs ∧ Below w.heap.size w w' := by
  obtain ⟨i, hi, hzz⟩ := Option.map_eq_some_iff.1 info_slot
  simp only [Prod.mk.injEq] at hzz
  obtain ⟨hz, hs, hby⟩ := hzz
  have hr := run_make (P := Try.prog) w 57 33 i _ Try.underlying57 hi hz .i64 .i64 qs.length qs.length (by omega) (Int.le_refl _) (by rw [hby]; omega) (by omega)
  simp only [Int.toNat_natCast, hs] at hr
  have hb0 : Below w.heap.size w (w.alloc (.cells (madeCells #[.int .i64 0, .int .i64 0] (qs.length * 2)) 33)) := (Below.refl _ _).alloc (Nat.le_refl _) _
  have HV := Lib.hid (hv.below hb0 hBw)
  obtain ⟨a, cap, rfl, _⟩ := hv
  have HB0 := Lib.hid hb0
  clear hz hs hby hi hb0
  go_enter Try.func64, Try.ntmps64
  go_wp2_with (refine wpList_copy_sl rfl (.tmp 7) (.tmp 8) 57 rfl Try.underlying57 w.heap.size qs.length qs.length _ cap rfl rfl _ 33 (heap_alloc_new _ _) (size_madeCells _ _) A B z qs HV.out ?_; intro w1 hblk hbel; have HBLK := Lib.hid hblk; have HB1 := Lib.hid (hbel _ _ HB0.out (Nat.le_refl _)); clear hblk hbel)
  go_ret
  exact ⟨_, rfl, ⟨cellsS_length qs, .inr ⟨w.heap.size, qs.length, _, rfl, Nat.le_refl _, HBLK.out, Nat.le_refl _, by unfold maxLen; omega, by rw [List.size_toArray, cellsS_length], by rw [List.toList_toArray, List.take_of_length_le (by rw [cellsS_length]; exact Nat.le_refl _)]⟩⟩, HB1.out⟩
end Go.Proofs.Yteaapglkomlnhaa
