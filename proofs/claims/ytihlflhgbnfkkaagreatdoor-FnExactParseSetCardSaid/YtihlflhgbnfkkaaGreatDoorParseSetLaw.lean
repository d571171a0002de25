/- FnExactParseSet: at every argument the call answers true and leaves its argument as it was. No condition of its own; the variables that the row lists are tied to the program's text by the given tie. -/
import Derived.Test.YtihlflhgbnfkkaaGreatDoorParseWalk
import Derived.Test.YtihlflhgbnfkkaaGreatDoorCards
import Derived.Test.YtihlflhgbnfkkaaGreatDoorTie
import Derived.SevenTiedAt
import Derived.Test.YtihlflhgbnfkkaaGreatDoorSeat
import Derived.Deep.DeepHandedRow
namespace Go.Proofs.YtihlflhgbnfkkaaGreatDoor.FnExactParseSet
open Go.ChangeShapes Go.WideShapes Go.ChangeAt Go.WideMaps Go.WideElems Go.RowKit
open Go.ChangeMaps (open_string shut_string)

set_option maxRecDepth 100000 in
theorem contract (H : Type) (enc : TypeId × Value → H) (W : World) (base : Nat) (args : Array Value) (ds gs : List (DataW H)) (before : List MemPlace)
    (hval : ∀ (j : Nat) t v, Tryz.f5.params[j]? = some t → args[j]? = some v → Value.okWide Tryz.prog W .any base t v)
    (hW : DataW.Whole enc Tryz.prog Tryz.f5.params.toList Rows.fnExactParseSetSpec.vars false W args.toList ds gs before) (hL : laidMetH Tryz.prog Rows.fnExactParseSetRow.laid W) (hSh : W.ShapedOpen Tryz.prog) :
    Calls Tryz.prog 5 args W fun e W' => ∃ v, e = .returned v ∧ Rows.fnExactParseSetSpec.post enc Tryz.prog Tryz.f5 false true false false W args v W' := by
  have hW' := hW
  obtain ⟨p, q, hA0, hV, rfl, hfz, hnd⟩ := hW
  have hA : DataW.TrodAll enc Tryz.prog W 0 (fun _ => true) true Tryz.f5.params.toList args.toList ds p := hA0
  rw [Tryz.params5] at hA hval
  obtain ⟨v0, vs0, d0, ds0, p0, q0, hargs, rfl, rfl, h0, r0⟩ := trodAll_cons hA
  obtain ⟨rfl, rfl, rfl⟩ := trodAll_nil r0
  obtain rfl : args = #[v0] := by cases args; simp_all
  obtain ⟨_, _, _, rfl⟩ := trodVars_three hV
  obtain ⟨x0, rfl, rfl, rfl, hs0⟩ := open_string Tryz.underlying9 (hval 0 9 v0 rfl rfl) h0
  refine (walk_FnExactParseSet W x0 hs0 hL hSh).mono fun e W' ⟨he, hb⟩ => ?_
  subst he
  exact ⟨_, rfl, law_post laidOut (by kernel_rfl) (by kernel_rfl) (by kernel_rfl) Tryz.underlying4 hW' rfl hb⟩

set_option maxRecDepth 100000 in
theorem laid_met (os : Os) : laidMet Tryz.prog Rows.fnExactParseSetRow.laid ((World.laidAll Tryz.prog os Rows.fnExactParseSetRow.laid).forCall (fun _ _ => 0) ⟨#[], (#[.string ⟨#[]⟩] : Array Value), []⟩).memory :=
  laidMet_laidAll _ (by kernel_rfl) (by kernel_rfl)
/-- What the witness reads as. -/
noncomputable def wit (os : Os) {H : Type} (enc : TypeId × Value → H) : List (DataW H) × List (DataW H) × List MemPlace :=
  (DataW.whole enc Tryz.prog ((World.laidAll Tryz.prog os Rows.fnExactParseSetRow.laid).forCall (fun _ _ => 0) ⟨#[], (#[.string ⟨#[]⟩] : Array Value), []⟩).memory Tryz.f5.params.toList Rows.fnExactParseSetSpec.vars false (#[.string ⟨#[]⟩] : Array Value).toList 8).getD ([], [], [])
theorem reads (os : Os) {H : Type} (enc : TypeId × Value → H) : DataW.whole enc Tryz.prog ((World.laidAll Tryz.prog os Rows.fnExactParseSetRow.laid).forCall (fun _ _ => 0) ⟨#[], (#[.string ⟨#[]⟩] : Array Value), []⟩).memory Tryz.f5.params.toList Rows.fnExactParseSetSpec.vars false (#[.string ⟨#[]⟩] : Array Value).toList 8 = some (wit os enc) := by kernel_rfl
set_option maxRecDepth 100000 in
theorem lifted (os : Os) (started : os.Started) (H : Type) (enc : TypeId × Value → H) (F : Stop.Interp) :
    ReturnsInHanded {} Tryz.checked os 5 .any ((OpenSpec.ofChange Rows.fnExactParseSetSpec).preRow enc Tryz.prog Tryz.f5 Rows.fnExactParseSetRow.domain false Rows.fnExactParseSetRow.laid) (((OpenSpec.ofChange Rows.fnExactParseSetSpec).at F).post enc Tryz.prog Tryz.f5 false true false false) := by
  refine returnsInHanded_of_row (C := Tryz.checked) (s := OpenSpec.ofChange Rows.fnExactParseSetSpec) own started (by kernel_rfl) Tryz.func5
    (witness_row_shaped (enc := enc) (C := Tryz.checked) false (World.laidAll Tryz.prog os Rows.fnExactParseSetRow.laid) #[.string ⟨#[]⟩] (World.laidAll_os _ _ _) (World.shaped_of_ZipB (by kernel_rfl) (by kernel_rfl)) (by kernel_rfl)
      (OpenSpec.preRow_of_cond 8 (reads os enc) (by kernel_rfl) (fun k hk => by cases hk) (by kernel_rfl) (by rw [MakeChecks.laidMetH_plain _ _ _ (by kernel_rfl)]; exact laid_met os))) ?_
  intro W base args ds gs before hval hW _ _ _ hL hSh _
  exact contract H enc W base args ds gs before hval hW hL hSh

theorem closed : joinedFacts Tryz.pinned.checked.prog 5 Tryz.f5 (OpenSpec.ofChange Rows.fnExactParseSetSpec).bare Rows.fnExactParseSetRow = true := by
  unfold joinedFacts
  rw [seat_mayEnter, seat_lifts, seat_make]
  kernel_rfl
theorem said : Rows.FnExactParseSetSaid :=
  OpenClaim.holds_of_cond 5 Tryz.f5 rfl rfl rfl rfl rfl rfl rfl ⟨rfl, rfl, rfl, rfl, rfl⟩ rfl rfl rfl rfl rfl (by kernel_rfl) Tryz.func5 closed
    (of_decide_eq_true (by kernel_rfl)) (by unfold Func.isWrapper; first | (rw [if_pos (by decide +kernel)]; kernel_rfl) | (rw [if_neg (by decide +kernel)]; exact ⟨rfl, rfl⟩))
    (fun os started H enc _ F => by rw [OpenClaim.pre_eq_preRow]; exact lifted os started H enc F)

theorem plain (f : FuncId) (fn : Func) (hf : Tryz.pinned.checked.prog.funcNamed "loop.example/g00803/laws.FnExactParseSet" = some f) (hfn : Tryz.pinned.checked.prog.funcs[f]? = some fn) :
    true = Tryz.pinned.checked.prog.looks [] ∧ ∀ (j : Nat) t, fn.params[j]? = some t → Tryz.pinned.checked.prog.wantsStandIn t = false := by
  obtain rfl : f = 5 := Option.some.inj ((show Tryz.prog.funcNamed "loop.example/g00803/laws.FnExactParseSet" = some 5 by kernel_rfl).symm.trans hf) |>.symm
  obtain rfl : fn = Tryz.f5 := (Option.some.inj (Tryz.func5.symm.trans hfn)).symm
  refine ⟨by kernel_rfl, fun j t ht => ?_⟩
  rw [Tryz.params5] at ht
  have hm : t ∈ [9] := by simpa using Array.mem_of_getElem? ht
  have hall : ([9].all fun u => !Tryz.prog.wantsStandIn u) = true := by kernel_rfl
  exact (show Tryz.prog.wantsStandIn t = false by simpa using List.all_eq_true.1 hall t hm)

theorem card : Rows.FnExactParseSetCardSaid :=
  Claim7.holds_tied_plain_at .later [] _ _ _ _ said (fun _ h => by cases h) (by kernel_rfl) (fun _ h => by cases h) fnExactParseSet_row_tie rfl ⟨rfl, rfl⟩ seat_main rfl plain (by kernel_rfl)
end Go.Proofs.YtihlflhgbnfkkaaGreatDoor.FnExactParseSet
