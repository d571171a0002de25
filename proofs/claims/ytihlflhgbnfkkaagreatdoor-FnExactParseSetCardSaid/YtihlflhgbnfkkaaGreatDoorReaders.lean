/- The map of an attribute's readers: what lies under each name. No condition of its own. -/
import Derived.Test.YtihlflhgbnfkkaaGreatDoorParseMath
import Derived.Test.YtihlflhgbnfkkaaGreatDoorPsBlk
import Derived.Maps.OwnSet
import Derived.Maps.OwnOps
namespace Go.Proofs.YtihlflhgbnfkkaaGreatDoor
open Go.ChangeShapes Go.WideShapes Go.ChangeAt Go.WideMaps Go.WideElems Go.RowKit
open Go.Maps (Keyed string_keyed IsMap atKey_put_same atKey_put_other has_put_same has_put_other)

open Classical in
/-- How a reader reads: by its number, if it holds the box g. -/
noncomputable def rdR (g : Nat) (v : Value) : Option (DataW Unit × List MemPlace) :=
  match v with
  | .func (.func n) fs cs => if fs = #[] ∧ cs = #[.pointer (some ⟨g, 0, none⟩)] then some (.lit (.int .i64 n), []) else none
  | .nilFunc => some (.lit (.int .i64 0), [])
  | _ => none
theorem rdR_at (g n : Nat) : rdR g (.func (.func n) #[] #[.pointer (some ⟨g, 0, none⟩)]) = some (.lit (.int .i64 n), []) := by simp [rdR]
theorem rdR_nil (g : Nat) : rdR g .nilFunc = some (.lit (.int .i64 0), []) := rfl
theorem rdR_inv {g n : Nat} {v : Value} {ps : List MemPlace} (hn : 0 < n) (h : rdR g v = some (.lit (.int .i64 n), ps)) : v = .func (.func n) #[] #[.pointer (some ⟨g, 0, none⟩)] := by
  unfold rdR at h
  split at h
  · split at h
    · rename_i m fs cs hb
      obtain ⟨rfl, rfl⟩ := hb
      simp only [Option.some.injEq, Prod.mk.injEq, DataW.lit.injEq, Lit.int.injEq, true_and] at h
      have h1 := h.1
      have h2 : m = n := by exact_mod_cast h1
      rw [h2]
    · cases h
  · simp only [Option.some.injEq, Prod.mk.injEq, DataW.lit.injEq, Lit.int.injEq, true_and] at h
    omega
  · cases h
theorem wpList_insert_own {H : Type} {P : Program} (w : World) {ops : Array Oper} {rest : List Oper} {o : Oper} {a : Act} {Q : Exit → Act → World → Prop}
    (hg : o.guard = none) (m x v : Operand) (t : TypeId) (hop : o.op = Op.insert t m x v)
    (k e : TypeId) (K : Keyed P k) (ht : P.underlying t = some (.map k e)) (R : Value → Option (DataW H × List MemPlace)) (b n : Nat) (D : DataW H)
    (hm : a.eval m = .map (some b)) (hown : w.ownsMap P k R b n D) (hn : n < maxLen) (key val : Value) (kl : Lit) (hx : a.eval x = key) (hv : a.eval v = val) (hkey : keyOf P k key = some kl)
    (d : DataW H) (ps : List MemPlace) (hval : R val = some (d, ps))
    (hK : ∀ w', w'.ownsMap P k R b (n + 1) (D.put kl d) → w.grownBy w' (some b) → wpList P ops Q rest (a.put o.dst undef) w') :
    wpList P ops Q (o :: rest) a w := by
  refine wpList_plain hg fun K' hK' => ?_
  obtain ⟨w', hrun, r1, r2⟩ := hown.update K ht hn hkey hval
  unfold Oper.wp
  simp [execOp, hop, hm, hx, hv, hrun, Result.andThen]
  exact hK' _ _ (hK w' r1 r2)
theorem keyLaw : Keyed Tryz.prog 9 := string_keyed Tryz.underlying9
theorem keyTxt (s : ByteArray) (h : s.size ≤ maxLen) : keyOf Tryz.prog 9 (.string s) = some (.string s.data.toList) := keyOf_string_mk Tryz.underlying9 h
theorem zeroFun (w : World) : (zeroValue 64).run Tryz.prog w = .ok .nilFunc w := by kernel_rfl
/-- Which function reads an attribute. -/
def fnNo (k : Nat) : Nat := if k = 1 then 100 else if k = 2 then 103 else if k = 3 then 104 else if k = 4 then 106 else if k = 5 then 107 else if k = 6 then 108 else if k = 7 then 109 else 0
def putF (D : DataW Unit) (key : ByteArray) (n : Nat) : DataW Unit := D.put (.string key.data.toList) (.lit (.int .i64 n))
def D7 : DataW Unit := putF (putF (putF (putF (putF (putF (putF (.map []) kExpires 100) kMaxAge 103) kDomain 104) kPath 106) kSecure 107) kHttpOnly 108) kSameSite 109
theorem putF_map {D : DataW Unit} (h : IsMap D) (key : ByteArray) (n : Nat) : IsMap (putF D key n) := h.put _ _
theorem putF_at {D : DataW Unit} (h : IsMap D) (key : ByteArray) (n : Nat) (u : ByteArray) (z : DataW Unit) : (putF D key n).atKey (.string u.data.toList) z = if u = key then .lit (.int .i64 n) else D.atKey (.string u.data.toList) z := by
  by_cases e : u = key
  · subst e
    rw [if_pos rfl, putF, atKey_put_same h (by simp [WideAt.IsKeyLit])]
  · rw [if_neg e, putF, atKey_put_other (fun h2 => e (bytes_inj (by simpa using h2)))]
theorem putF_has {D : DataW Unit} (h : IsMap D) (key : ByteArray) (n : Nat) (u : ByteArray) : Maps.has (putF D key n) (.string u.data.toList) = if u = key then true else Maps.has D (.string u.data.toList) := by
  by_cases e : u = key
  · subst e
    rw [if_pos rfl, putF, has_put_same h (by simp [WideAt.IsKeyLit])]
  · rw [if_neg e, putF, has_put_other (fun h2 => e (bytes_inj (by simpa using h2)))]
theorem map0 : IsMap (.map [] : DataW Unit) := ⟨[], rfl⟩
theorem D7_at (u : ByteArray) : D7.atKey (.string u.data.toList) (.lit (.int .i64 0)) = .lit (.int .i64 (fnNo (atN u))) := by
  have m1 := putF_map map0 kExpires 100
  have m2 := putF_map m1 kMaxAge 103
  have m3 := putF_map m2 kDomain 104
  have m4 := putF_map m3 kPath 106
  have m5 := putF_map m4 kSecure 107
  have m6 := putF_map m5 kHttpOnly 108
  rw [D7, putF_at m6, putF_at m5, putF_at m4, putF_at m3, putF_at m2, putF_at m1, putF_at map0]
  by_cases e1 : u = kExpires
  · subst e1
    repeat (first | rw [if_pos rfl] | rw [if_neg (by decide)])
    first | rfl | (rw [show atN kExpires = 1 by decide +kernel]; rfl) | decide +kernel
  by_cases e2 : u = kMaxAge
  · subst e2
    repeat (first | rw [if_pos rfl] | rw [if_neg (by decide)])
    first | rfl | (rw [show atN kMaxAge = 2 by decide +kernel]; rfl) | decide +kernel
  by_cases e3 : u = kDomain
  · subst e3
    repeat (first | rw [if_pos rfl] | rw [if_neg (by decide)])
    first | rfl | (rw [show atN kDomain = 3 by decide +kernel]; rfl) | decide +kernel
  by_cases e4 : u = kPath
  · subst e4
    repeat (first | rw [if_pos rfl] | rw [if_neg (by decide)])
    first | rfl | (rw [show atN kPath = 4 by decide +kernel]; rfl) | decide +kernel
  by_cases e5 : u = kSecure
  · subst e5
    repeat (first | rw [if_pos rfl] | rw [if_neg (by decide)])
    first | rfl | (rw [show atN kSecure = 5 by decide +kernel]; rfl) | decide +kernel
  by_cases e6 : u = kHttpOnly
  · subst e6
    repeat (first | rw [if_pos rfl] | rw [if_neg (by decide)])
    first | rfl | (rw [show atN kHttpOnly = 6 by decide +kernel]; rfl) | decide +kernel
  by_cases e7 : u = kSameSite
  · subst e7
    repeat (first | rw [if_pos rfl] | rw [if_neg (by decide)])
    first | rfl | (rw [show atN kSameSite = 7 by decide +kernel]; rfl) | decide +kernel
  rw [if_neg e7, if_neg e6, if_neg e5, if_neg e4, if_neg e3, if_neg e2, if_neg e1, atN, if_neg e1, if_neg e2, if_neg e3, if_neg e4, if_neg e5, if_neg e6, if_neg e7]
  rfl
theorem D7_has (u : ByteArray) : Maps.has D7 (.string u.data.toList) = decide (0 < atN u) := by
  have m1 := putF_map map0 kExpires 100
  have m2 := putF_map m1 kMaxAge 103
  have m3 := putF_map m2 kDomain 104
  have m4 := putF_map m3 kPath 106
  have m5 := putF_map m4 kSecure 107
  have m6 := putF_map m5 kHttpOnly 108
  rw [D7, putF_has m6, putF_has m5, putF_has m4, putF_has m3, putF_has m2, putF_has m1, putF_has map0]
  by_cases e1 : u = kExpires
  · subst e1
    repeat (first | rw [if_pos rfl] | rw [if_neg (by decide)])
    first | rfl | (rw [show atN kExpires = 1 by decide +kernel]; rfl) | decide +kernel
  by_cases e2 : u = kMaxAge
  · subst e2
    repeat (first | rw [if_pos rfl] | rw [if_neg (by decide)])
    first | rfl | (rw [show atN kMaxAge = 2 by decide +kernel]; rfl) | decide +kernel
  by_cases e3 : u = kDomain
  · subst e3
    repeat (first | rw [if_pos rfl] | rw [if_neg (by decide)])
    first | rfl | (rw [show atN kDomain = 3 by decide +kernel]; rfl) | decide +kernel
  by_cases e4 : u = kPath
  · subst e4
    repeat (first | rw [if_pos rfl] | rw [if_neg (by decide)])
    first | rfl | (rw [show atN kPath = 4 by decide +kernel]; rfl) | decide +kernel
  by_cases e5 : u = kSecure
  · subst e5
    repeat (first | rw [if_pos rfl] | rw [if_neg (by decide)])
    first | rfl | (rw [show atN kSecure = 5 by decide +kernel]; rfl) | decide +kernel
  by_cases e6 : u = kHttpOnly
  · subst e6
    repeat (first | rw [if_pos rfl] | rw [if_neg (by decide)])
    first | rfl | (rw [show atN kHttpOnly = 6 by decide +kernel]; rfl) | decide +kernel
  by_cases e7 : u = kSameSite
  · subst e7
    repeat (first | rw [if_pos rfl] | rw [if_neg (by decide)])
    first | rfl | (rw [show atN kSameSite = 7 by decide +kernel]; rfl) | decide +kernel
  rw [if_neg e7, if_neg e6, if_neg e5, if_neg e4, if_neg e3, if_neg e2, if_neg e1, atN, if_neg e1, if_neg e2, if_neg e3, if_neg e4, if_neg e5, if_neg e6, if_neg e7]
  rfl
/-- The map of the readers lies at M, their box at g. -/
def ReadersAt (w : World) (B g M : Nat) : Prop := w.ownsMap Tryz.prog 9 (rdR g) M 7 D7 ∧ w.cell? ⟨g, 0, none⟩ = some (.pointer (some ⟨B, 0, none⟩)) ∧ g < w.heap.size ∧ g ≠ M
theorem ReadersAt.grown {w w' : World} {B g M : Nat} {r : Option Nat} (h : ReadersAt w B g M) (hg : w.grownBy w' r) (h1 : r ≠ some M) (h2 : r ≠ some g) : ReadersAt w' B g M :=
  ⟨h.1.kept hg h1.symm, (World.cell?_of_block (a := ⟨g, 0, none⟩) (hg.block g h.2.2.1 h2.symm)).trans h.2.1, Nat.lt_of_lt_of_le h.2.2.1 hg.size, h.2.2.2⟩
set_option maxHeartbeats 2000000 in
set_option maxRecDepth 100000 in
theorem readers_any (B : Nat) (w : World) : Calls Tryz.prog 47 #[.pointer (some ⟨B, 0, none⟩)] w fun e w' => e = .returned (.map (some (w.heap.size + 1))) ∧ ReadersAt w' B w.heap.size (w.heap.size + 1) ∧ Below w.heap.size w w' := by
  have hmm := @run_makeMap Tryz.prog
  have h0 := World.ownsMap_made (w.alloc (.cells #[.pointer (some ⟨B, 0, none⟩)] 61)) Tryz.prog 9 (rdR w.heap.size)
  rw [World.size_alloc] at h0
  have H0 := Lib.hid h0
  clear h0
  have k1 := keyTxt kExpires (by decide)
  have k2 := keyTxt kMaxAge (by decide)
  have k3 := keyTxt kDomain (by decide)
  have k4 := keyTxt kPath (by decide)
  have k5 := keyTxt kSecure (by decide)
  have k6 := keyTxt kHttpOnly (by decide)
  have k7 := keyTxt kSameSite (by decide)
  go_enter Tryz.func47, Tryz.ntmps47
  go_wp2_with (first
    | (refine wpList_insert_own _ rfl _ _ _ 59 rfl 9 64 keyLaw Tryz.underlying59 _ (w.heap.size + 1) 0 _ rfl H0.out (by unfold maxLen; omega) _ _ _ rfl rfl k1 _ [] (rdR_at w.heap.size 100) ?_; intro w1 hown1 hgrow1)
    | (refine wpList_insert_own _ rfl _ _ _ 59 rfl 9 64 keyLaw Tryz.underlying59 _ (w.heap.size + 1) 1 _ rfl hown1 (by unfold maxLen; omega) _ _ _ rfl rfl k2 _ [] (rdR_at w.heap.size 103) ?_; intro w2 hown2 hgrow2)
    | (refine wpList_insert_own _ rfl _ _ _ 59 rfl 9 64 keyLaw Tryz.underlying59 _ (w.heap.size + 1) 2 _ rfl hown2 (by unfold maxLen; omega) _ _ _ rfl rfl k3 _ [] (rdR_at w.heap.size 104) ?_; intro w3 hown3 hgrow3)
    | (refine wpList_insert_own _ rfl _ _ _ 59 rfl 9 64 keyLaw Tryz.underlying59 _ (w.heap.size + 1) 3 _ rfl hown3 (by unfold maxLen; omega) _ _ _ rfl rfl k4 _ [] (rdR_at w.heap.size 106) ?_; intro w4 hown4 hgrow4)
    | (refine wpList_insert_own _ rfl _ _ _ 59 rfl 9 64 keyLaw Tryz.underlying59 _ (w.heap.size + 1) 4 _ rfl hown4 (by unfold maxLen; omega) _ _ _ rfl rfl k5 _ [] (rdR_at w.heap.size 107) ?_; intro w5 hown5 hgrow5)
    | (refine wpList_insert_own _ rfl _ _ _ 59 rfl 9 64 keyLaw Tryz.underlying59 _ (w.heap.size + 1) 5 _ rfl hown5 (by unfold maxLen; omega) _ _ _ rfl rfl k6 _ [] (rdR_at w.heap.size 108) ?_; intro w6 hown6 hgrow6)
    | (refine wpList_insert_own _ rfl _ _ _ 59 rfl 9 64 keyLaw Tryz.underlying59 _ (w.heap.size + 1) 6 _ rfl hown6 (by unfold maxLen; omega) _ _ _ rfl rfl k7 _ [] (rdR_at w.heap.size 109) ?_; intro w7 hown7 hgrow7)
    | go_in)
  go_ret
  have hG : ((w.alloc (.cells #[.pointer (some ⟨B, 0, none⟩)] 61)).alloc (.map #[] 0)).grownBy w7 (some (w.heap.size + 1)) := grown_then hgrow1 (grown_then hgrow2 (grown_then hgrow3 (grown_then hgrow4 (grown_then hgrow5 (grown_then hgrow6 hgrow7)))))
  have hc : ((w.alloc (.cells #[.pointer (some ⟨B, 0, none⟩)] 61)).alloc (.map #[] 0)).heap[w.heap.size]? = some (.cells #[.pointer (some ⟨B, 0, none⟩)] 61 (0, 0)) := (Below.heap_alloc _ _ _ (by simp)).trans (heap_alloc_new w _)
  have hc7 := (hG.block w.heap.size (by simp; omega) (by simp)).trans hc
  refine ⟨rfl, ⟨hown7, by simp [World.cell?, hc7], ?_, by omega⟩, (((Below.refl _ w).alloc (Nat.le_refl _) _).alloc (by simp) _).grown hG (by simp; omega) (fun k e => by cases e; omega)⟩
  have := hG.size
  simp at this
  omega
end Go.Proofs.YtihlflhgbnfkkaaGreatDoor
