/-
  No cell of these rows narrows 'for every input' (looked for: loops, veiled, ifaces, maps, wideKeys, modest, calm, conditions, laid).
  DERIVED. THE GIVEN ROWS OF THIS SEAT. 5 by the template 'for every input the law returns true; each argument reads behind the call as it read before'; 0 by the template 'total and deterministic' (their statements: YtgokolgknendiaaTotals.lean).
  GIVEN WITH THE SEED: the statements are not yours to turn. If you find one false, say at which input.
  Laid BY PROGRAM, IN A SANDBOX (cutbox-rows.mjs): the forced cells as the released guide's own fill.sh prints them over the translation a7775184e5053b39… (all of the seat's roots in one cut). By AI agents, Wed Nov 11 2026. No macro, syntax, notation, axiom, sorry.
-/
import Derived.Test.YtgokolgknendiaaChecked
import GoSem.Claim
import GoSem.ClaimJoined
import GoSem.ClaimMapViews
import Derived.JoinedTies
import Derived.KernelRfl
namespace Go.Proofs.Ytgokolgknendiaa
/- THE CELL 'sum', in the pinned program and in every row, IS THE sha256 OF THE DUMP (.gsa) THAT YtgokolgknendiaaProg.lean LOADS. Nothing in Lean hashes anything: it is a label: what it is worth is what the hold of that sum in a sandbox is worth. -/
noncomputable def Try.pinned : Pinned := { name := "ytgokolgknendiaa", sum := "a7775184e5053b390e33f5c91deb724f8d56a9371070abc5074041798e70288d", checked := Try.checked }
namespace Rows
def none {H : Type} : Left H := { results := [], args := [] }

/-- 'laws.FnExactDateTokens': WHATEVER THE INPUT: true; the input reads as it did. -/
def fnExactDateTokensSpec : ChangeSpec := { name := "fnExactDateTokens", fn := fun _ => fun
  | [d] => { results := [.lit (.bool true)], args := [d] }
  | _ => none }
def fnExactDateTokensRow : OpenClaim := { program := "ytgokolgknendiaa", sum := "a7775184e5053b390e33f5c91deb724f8d56a9371070abc5074041798e70288d", func := "loop.example/g00803/laws.FnExactDateTokens", spec := "fnExactDateTokens", unfollowed := true, recurses := true, apart := false }
def FnExactDateTokensSaid : Prop := fnExactDateTokensRow.holds Try.pinned (OpenSpec.ofChange fnExactDateTokensSpec)

/-- ITS FALSE NEIGHBOUR: 'it returns false'. Refute it at one input. -/
def fnExactDateTokensWrong : ChangeSpec := { name := "fnExactDateTokens", fn := fun _ => fun
  | [d] => { results := [.lit (.bool false)], args := [d] }
  | _ => none }
def FnExactDateTokensWrongFalsely : Prop := fnExactDateTokensRow.holds Try.pinned (OpenSpec.ofChange fnExactDateTokensWrong)

/-- 'laws.FnExactDateOK': WHATEVER THE INPUT: true; the input reads as it did. -/
def fnExactDateOKSpec : ChangeSpec := { name := "fnExactDateOK", fn := fun _ => fun
  | [d] => { results := [.lit (.bool true)], args := [d] }
  | _ => none }
def fnExactDateOKRow : OpenClaim := { program := "ytgokolgknendiaa", sum := "a7775184e5053b390e33f5c91deb724f8d56a9371070abc5074041798e70288d", func := "loop.example/g00803/laws.FnExactDateOK", spec := "fnExactDateOK", apart := false }
def FnExactDateOKSaid : Prop := fnExactDateOKRow.holds Try.pinned (OpenSpec.ofChange fnExactDateOKSpec)

/-- ITS FALSE NEIGHBOUR: 'it returns false'. Refute it at one input. -/
def fnExactDateOKWrong : ChangeSpec := { name := "fnExactDateOK", fn := fun _ => fun
  | [d] => { results := [.lit (.bool false)], args := [d] }
  | _ => none }
def FnExactDateOKWrongFalsely : Prop := fnExactDateOKRow.holds Try.pinned (OpenSpec.ofChange fnExactDateOKWrong)

/-- 'laws.FnExactSeconds': WHATEVER THE INPUT: true; the input reads as it did. -/
def fnExactSecondsSpec : ChangeSpec := { name := "fnExactSeconds", fn := fun _ => fun
  | [d] => { results := [.lit (.bool true)], args := [d] }
  | _ => none }
def fnExactSecondsRow : OpenClaim := { program := "ytgokolgknendiaa", sum := "a7775184e5053b390e33f5c91deb724f8d56a9371070abc5074041798e70288d", func := "loop.example/g00803/laws.FnExactSeconds", spec := "fnExactSeconds", apart := false }
def FnExactSecondsSaid : Prop := fnExactSecondsRow.holds Try.pinned (OpenSpec.ofChange fnExactSecondsSpec)

/-- ITS FALSE NEIGHBOUR: 'it returns false'. Refute it at one input. -/
def fnExactSecondsWrong : ChangeSpec := { name := "fnExactSeconds", fn := fun _ => fun
  | [d] => { results := [.lit (.bool false)], args := [d] }
  | _ => none }
def FnExactSecondsWrongFalsely : Prop := fnExactSecondsRow.holds Try.pinned (OpenSpec.ofChange fnExactSecondsWrong)

/-- 'laws.FnExactDateOf': WHATEVER THE INPUT: true; the input reads as it did. -/
def fnExactDateOfSpec : ChangeSpec := { name := "fnExactDateOf", fn := fun _ => fun
  | [d] => { results := [.lit (.bool true)], args := [d] }
  | _ => none }
def fnExactDateOfRow : OpenClaim := { program := "ytgokolgknendiaa", sum := "a7775184e5053b390e33f5c91deb724f8d56a9371070abc5074041798e70288d", func := "loop.example/g00803/laws.FnExactDateOf", spec := "fnExactDateOf", apart := false }
def FnExactDateOfSaid : Prop := fnExactDateOfRow.holds Try.pinned (OpenSpec.ofChange fnExactDateOfSpec)

/-- ITS FALSE NEIGHBOUR: 'it returns false'. Refute it at one input. -/
def fnExactDateOfWrong : ChangeSpec := { name := "fnExactDateOf", fn := fun _ => fun
  | [d] => { results := [.lit (.bool false)], args := [d] }
  | _ => none }
def FnExactDateOfWrongFalsely : Prop := fnExactDateOfRow.holds Try.pinned (OpenSpec.ofChange fnExactDateOfWrong)

/-- 'laws.FnExactWeekday': WHATEVER THE INPUT: true; the input reads as it did. -/
def fnExactWeekdaySpec : ChangeSpec := { name := "fnExactWeekday", fn := fun _ => fun
  | [d] => { results := [.lit (.bool true)], args := [d] }
  | _ => none }
def fnExactWeekdayRow : OpenClaim := { program := "ytgokolgknendiaa", sum := "a7775184e5053b390e33f5c91deb724f8d56a9371070abc5074041798e70288d", func := "loop.example/g00803/laws.FnExactWeekday", spec := "fnExactWeekday", apart := false }
def FnExactWeekdaySaid : Prop := fnExactWeekdayRow.holds Try.pinned (OpenSpec.ofChange fnExactWeekdaySpec)

/-- ITS FALSE NEIGHBOUR: 'it returns false'. Refute it at one input. -/
def fnExactWeekdayWrong : ChangeSpec := { name := "fnExactWeekday", fn := fun _ => fun
  | [d] => { results := [.lit (.bool false)], args := [d] }
  | _ => none }
def FnExactWeekdayWrongFalsely : Prop := fnExactWeekdayRow.holds Try.pinned (OpenSpec.ofChange fnExactWeekdayWrong)

/- THE SECOND FORM. 'bulk': how many values and letters a reading holds, each counted each time it is reached (what is shared counts as often as it is met; a slice's spare places count too). A statement '..UptoSaid' is the law's where the arguments, and the package variables that the reading takes, are together of bulk at most 1048576: NARROWER than '..Said'. Prove '..Said' where nothing that the law and all that it calls make is longer than what came in: it says more and counts as full. Else prove '..UptoSaid'. A law counts once. -/
mutual
def uptoBulk {H : Type} : DataW H → Nat
  | .lit (.string bytes) => bytes.length + 1
  | .lit _ => 1
  | .nil => 1
  | .ptr d => uptoBulk d + 1
  | .slice elems spare => uptoBulkAll elems + uptoBulkAll spare + 1
  | .agg parts => uptoBulkAll parts + 1
  | .iface _ d => uptoBulk d + 1
  | .map entries => uptoBulkEntries entries + 1
  | .held _ => 1
def uptoBulkAll {H : Type} : List (DataW H) → Nat
  | [] => 0
  | d :: r => uptoBulk d + uptoBulkAll r
def uptoBulkEntries {H : Type} : List (Lit × DataW H) → Nat
  | [] => 0
  | x :: r => uptoBulkEntry x + uptoBulkEntries r
def uptoBulkEntry {H : Type} : Lit × DataW H → Nat
  | (.string bytes, d) => bytes.length + uptoBulk d + 1
  | (_, d) => uptoBulk d + 1
 end
def uptoSmall : (H : Type) → List (DataW H) → Bool := fun _ ds => decide (uptoBulkAll ds ≤ 1048576)
def OpenSpec.upto (s : _root_.Go.ChangeSpec) : _root_.Go.OpenSpec := { _root_.Go.OpenSpec.ofChange s with cond := some uptoSmall }

/-- 'laws.FnExactDateTokens', WHERE WHAT IT READS IS OF BULK AT MOST 1048576: true; the input reads as it did. -/
def fnExactDateTokensUptoRow : OpenClaim := { program := "ytgokolgknendiaa", sum := "a7775184e5053b390e33f5c91deb724f8d56a9371070abc5074041798e70288d", func := "loop.example/g00803/laws.FnExactDateTokens", spec := "fnExactDateTokens", unfollowed := true, recurses := true, apart := false, narrowed := true }
def FnExactDateTokensUptoSaid : Prop := fnExactDateTokensUptoRow.holds Try.pinned (OpenSpec.upto fnExactDateTokensSpec)

/-- 'laws.FnExactDateOK', WHERE WHAT IT READS IS OF BULK AT MOST 1048576: true; the input reads as it did. -/
def fnExactDateOKUptoRow : OpenClaim := { program := "ytgokolgknendiaa", sum := "a7775184e5053b390e33f5c91deb724f8d56a9371070abc5074041798e70288d", func := "loop.example/g00803/laws.FnExactDateOK", spec := "fnExactDateOK", apart := false, narrowed := true }
def FnExactDateOKUptoSaid : Prop := fnExactDateOKUptoRow.holds Try.pinned (OpenSpec.upto fnExactDateOKSpec)

/-- 'laws.FnExactSeconds', WHERE WHAT IT READS IS OF BULK AT MOST 1048576: true; the input reads as it did. -/
def fnExactSecondsUptoRow : OpenClaim := { program := "ytgokolgknendiaa", sum := "a7775184e5053b390e33f5c91deb724f8d56a9371070abc5074041798e70288d", func := "loop.example/g00803/laws.FnExactSeconds", spec := "fnExactSeconds", apart := false, narrowed := true }
def FnExactSecondsUptoSaid : Prop := fnExactSecondsUptoRow.holds Try.pinned (OpenSpec.upto fnExactSecondsSpec)

/-- 'laws.FnExactDateOf', WHERE WHAT IT READS IS OF BULK AT MOST 1048576: true; the input reads as it did. -/
def fnExactDateOfUptoRow : OpenClaim := { program := "ytgokolgknendiaa", sum := "a7775184e5053b390e33f5c91deb724f8d56a9371070abc5074041798e70288d", func := "loop.example/g00803/laws.FnExactDateOf", spec := "fnExactDateOf", apart := false, narrowed := true }
def FnExactDateOfUptoSaid : Prop := fnExactDateOfUptoRow.holds Try.pinned (OpenSpec.upto fnExactDateOfSpec)

/-- 'laws.FnExactWeekday', WHERE WHAT IT READS IS OF BULK AT MOST 1048576: true; the input reads as it did. -/
def fnExactWeekdayUptoRow : OpenClaim := { program := "ytgokolgknendiaa", sum := "a7775184e5053b390e33f5c91deb724f8d56a9371070abc5074041798e70288d", func := "loop.example/g00803/laws.FnExactWeekday", spec := "fnExactWeekday", apart := false, narrowed := true }
def FnExactWeekdayUptoSaid : Prop := fnExactWeekdayUptoRow.holds Try.pinned (OpenSpec.upto fnExactWeekdaySpec)

end Rows
end Go.Proofs.Ytgokolgknendiaa
