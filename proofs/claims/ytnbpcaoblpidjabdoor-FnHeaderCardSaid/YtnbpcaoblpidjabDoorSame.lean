/- Two rows of texts compared by the law's own helper. No condition. -/
import Derived.Test.YtnbpcaoblpidjabDoorText
import Derived.Deep.QuietTactic
import Derived.BigQuiet
namespace Go.Proofs.YtnbpcaoblpidjabDoor
open Go.ChangeShapes Go.WideShapes Go.ChangeAt Go.WideMaps Go.WideElems Go.RowKit

set_option maxRecDepth 100000 in
theorem sameTexts_any (va vb : Value) (ps : List (List UInt8)) (B C : Nat) (w : World) (hl : ps.length ≤ 1000000) (ha : RowT w B va ps) (hb : RowT w C vb ps) : Calls Tryd.prog 9 #[va, vb] w fun e w' => e = .returned (.bool true) ∧ Below w.heap.size w w' := by
  obtain ⟨a, ca, rfl, ha⟩ := ha
  obtain ⟨b, cb, rfl, hb⟩ := hb
  have HA := Lib.hid ha
  have HB := Lib.hid hb
  clear ha hb
  go_enter Tryd.func9, Tryd.ntmps9
  go_wp2
  go_loopw [5] (fun i wr => ∃ j : Nat, j ≤ ps.length ∧ i = .int .i64 j ∧ Below w.heap.size w wr) (fun i _ => ps.length - (intOf i).toNat)
  case atStart => exact ⟨0, Nat.zero_le _, rfl, Below.refl _ _⟩
  case round =>
    obtain ⟨j, hj, rfl, hbel⟩ := hrel
    have HX := Lib.hid hbel
    clear hbel
    by_cases hlt : j < ps.length
    · obtain ⟨g, rfl, _, hg2, _, hc⟩ := HA.out (by omega)
      obtain ⟨g', rfl, _, hg2', _, hc'⟩ := HB.out (by omega)
      obtain ⟨u, hu⟩ : ∃ u : ByteArray, strV ps[j] = .string u := ⟨_, rfl⟩
      have c1 : wr.cell? ⟨g, j, none⟩ = some (.string u) := by rw [← hu]; exact (HX.out.cell (p := ⟨g, j, none⟩) hg2).trans (hc j hlt)
      have c2 : wr.cell? ⟨g', j, none⟩ = some (.string u) := by rw [← hu]; exact (HX.out.cell (p := ⟨g', j, none⟩) hg2').trans (hc' j hlt)
      have e1 : (u.toList == u.toList) = true := by simp
      have e2 : (u.toList != u.toList) = false := by simp
      have s1 : (j : Int) < ps.length := by omega
      clear hc hc' hu
      go_wp2
      go_quiet (fail)
      go_wp2
      go_roundw
      case rel => exact ⟨j + 1, by omega, by go_num, below_drewN HX.out _⟩
      case measure => simp [intOf]; omega
    · go_wp2
      go_ret
      exact ⟨rfl, HX.out⟩
end Go.Proofs.YtnbpcaoblpidjabDoor
