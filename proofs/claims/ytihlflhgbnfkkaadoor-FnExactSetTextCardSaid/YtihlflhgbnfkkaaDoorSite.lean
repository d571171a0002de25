/- ReadSite of the program and of the model; the law's walk. No condition of its own. -/
import Derived.Test.YtihlflhgbnfkkaaDoorFold
import Derived.Stop.LaidErr
namespace Go.Proofs.YtihlflhgbnfkkaaDoor
open Go.ChangeShapes Go.WideShapes Go.ChangeAt Go.WideMaps Go.WideElems Go.RowKit

def siteNames : List (List UInt8) := [[], [78, 111, 110, 101], [76, 97, 120], [83, 116, 114, 105, 99, 116]]
def noneT : ByteArray := ⟨#[110, 111, 110, 101]⟩
def laxT : ByteArray := ⟨#[108, 97, 120]⟩
def strictT : ByteArray := ⟨#[115, 116, 114, 105, 99, 116]⟩
/-- The number of a word that is folded already. -/
def siteN (u : ByteArray) : Int := if u.toList == [110, 111, 110, 101] then 1 else if u.toList == [108, 97, 120] then 2 else if u.toList == [115, 116, 114, 105, 99, 116] then 3 else 4
/-- What ReadSite answers. -/
def siteV (t : ByteArray) : Int := if t.size ≤ 65536 then siteN (foldB t) else 0
def SitesAt (w : World) : Prop := TextsAt Tryd.prog w "loop.example/g00803/impl.siteWords" siteNames
theorem gSite : Tryd.prog.globalNamed "loop.example/g00803/impl.siteWords" = some 0 := by kernel_rfl
theorem tSite : (Tryd.prog.globals[0]?).map (·.type) = some 35 := by kernel_rfl
theorem SitesAt.below {w w' : World} (h : SitesAt w) (hb : Below w.heap.size w w') : SitesAt w' := by
  unfold SitesAt TextsAt World.var? at *
  rw [gSite, Option.bind_some] at *
  split at h
  · rename_i cs t fr hh
    rw [hb.block _ (Array.getElem?_eq_some_iff.1 hh).1, hh]
    exact h
  · cases h
theorem SitesAt.cell {w : World} (h : SitesAt w) (i : Nat) (hi : i < 4) : w.cell? ⟨0, i, none⟩ = some (.string ⟨(siteNames.getD i []).toArray⟩) := TextsAt.cell h gSite i hi
theorem sites_laid {W : World} {rest : List (String × DataW Unit)} (h : laidMet Tryd.prog (("loop.example/g00803/impl.siteWords", Rows.laid_loop_example_g00803_impl_siteWords) :: rest) W) : SitesAt W :=
  texts_of_head (zs := siteNames) (rest := rest) gSite tSite Tryd.underlying35 Tryd.underlying9 (by kernel_rfl) (by kernel_rfl) h
theorem fold_none : foldB ⟨#[78, 111, 110, 101]⟩ = noneT := by decide +kernel
theorem fold_lax : foldB ⟨#[76, 97, 120]⟩ = laxT := by decide +kernel
theorem fold_strict : foldB ⟨#[83, 116, 114, 105, 99, 116]⟩ = strictT := by decide +kernel
/-- What is still to be tried from the k-th word on. -/
def siteK (k : Nat) (u : ByteArray) : Int := if k ≤ 1 then siteN u else if k = 2 then (if u.toList == [108, 97, 120] then 2 else if u.toList == [115, 116, 114, 105, 99, 116] then 3 else 4) else if k = 3 then (if u.toList == [115, 116, 114, 105, 99, 116] then 3 else 4) else 4
theorem beq_turn (a b : ByteArray) : (a.toList == b.toList) = (b.toList == a.toList) := by
  cases h : (a.toList == b.toList) with
  | true => exact (seq_true (seq_of h).symm).symm
  | false => exact (seq_false (Ne.symm (sne_of h))).symm
theorem none_turn (u : ByteArray) : (noneT.toList == u.toList) = (u.toList == [110, 111, 110, 101]) := by
  rw [beq_turn, ByteArray.toList_eq (bs := noneT)]
  rfl
theorem lax_turn (u : ByteArray) : (laxT.toList == u.toList) = (u.toList == [108, 97, 120]) := by
  rw [beq_turn, ByteArray.toList_eq (bs := laxT)]
  rfl
theorem strict_turn (u : ByteArray) : (strictT.toList == u.toList) = (u.toList == [115, 116, 114, 105, 99, 116]) := by
  rw [beq_turn, ByteArray.toList_eq (bs := strictT)]
  rfl
def SiteRel (w : World) (u : ByteArray) (i : Value) (wr : World) : Prop := ∃ k : Nat, 1 ≤ k ∧ k ≤ 4 ∧ i = .int .i64 k ∧ siteN u = siteK k u ∧ Below w.heap.size w wr
end Go.Proofs.YtihlflhgbnfkkaaDoor
