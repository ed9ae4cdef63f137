/-
  No cell of these rows narrows 'for every input' (looked for: loops, veiled, ifaces, maps, wideKeys, modest, calm, conditions, laid).
  DERIVED. THE GIVEN ROWS OF THIS SEAT. 5 by the template 'for every input the law returns true; each argument reads behind the call as it read before'; 0 by the template 'total and deterministic' (their statements: YtbhajmecaemafaaTotals.lean).
  GIVEN WITH THE SEED: the statements are not yours to turn. If you find one false, say at which input.
  Laid BY PROGRAM, IN A SANDBOX (cutbox-rows.mjs): the forced cells as the released guide's own fill.sh prints them over the translation 292124305858507d… (all of the seat's roots in one cut). By AI agents, Wed Nov 11 2026. No macro, syntax, notation, axiom, sorry.
-/
import Derived.Test.YtbhajmecaemafaaChecked
import GoSem.Claim
import GoSem.ClaimJoined
import GoSem.ClaimMapViews
import Derived.JoinedTies
import Derived.KernelRfl
namespace Go.Proofs.Ytbhajmecaemafaa
/- THE CELL 'sum', in the pinned program and in every row, IS THE sha256 OF THE DUMP (.gsa) THAT YtbhajmecaemafaaProg.lean LOADS. Nothing in Lean hashes anything: it is a label: what it is worth is what the hold of that sum in a sandbox is worth. -/
noncomputable def Try.pinned : Pinned := { name := "ytbhajmecaemafaa", sum := "292124305858507d6e26d9401812db86f4c91e4af54706757facfa9d13016f86", checked := Try.checked }
namespace Rows
def none {H : Type} : Left H := { results := [], args := [] }

/-- 'catchmentlaw07.TableTells': WHATEVER THE INPUT: true; the input reads as it did. -/
def tableTellsSpec : ChangeSpec := { name := "tableTells", fn := fun _ => fun
  | [d1, d2, d3] => { results := [.lit (.bool true)], args := [d1, d2, d3] }
  | _ => none }
def tableTellsRow : OpenClaim := { program := "ytbhajmecaemafaa", sum := "292124305858507d6e26d9401812db86f4c91e4af54706757facfa9d13016f86", func := "catchment/catchmentlaw07.TableTells", spec := "tableTells", plainKeys := false, apart := false }
def TableTellsSaid : Prop := tableTellsRow.holds Try.pinned (OpenSpec.ofChange tableTellsSpec)

/-- ITS FALSE NEIGHBOUR: 'it returns false'. Refute it at one input. -/
def tableTellsWrong : ChangeSpec := { name := "tableTells", fn := fun _ => fun
  | [d1, d2, d3] => { results := [.lit (.bool false)], args := [d1, d2, d3] }
  | _ => none }
def TableTellsWrongFalsely : Prop := tableTellsRow.holds Try.pinned (OpenSpec.ofChange tableTellsWrong)

/-- 'catchmentlaw07.TableOrder': WHATEVER THE INPUT: true; the input reads as it did. -/
def tableOrderSpec : ChangeSpec := { name := "tableOrder", fn := fun _ => fun
  | [d1, d2, d3] => { results := [.lit (.bool true)], args := [d1, d2, d3] }
  | _ => none }
def tableOrderRow : OpenClaim := { program := "ytbhajmecaemafaa", sum := "292124305858507d6e26d9401812db86f4c91e4af54706757facfa9d13016f86", func := "catchment/catchmentlaw07.TableOrder", spec := "tableOrder", plainKeys := false, apart := false }
def TableOrderSaid : Prop := tableOrderRow.holds Try.pinned (OpenSpec.ofChange tableOrderSpec)

/-- ITS FALSE NEIGHBOUR: 'it returns false'. Refute it at one input. -/
def tableOrderWrong : ChangeSpec := { name := "tableOrder", fn := fun _ => fun
  | [d1, d2, d3] => { results := [.lit (.bool false)], args := [d1, d2, d3] }
  | _ => none }
def TableOrderWrongFalsely : Prop := tableOrderRow.holds Try.pinned (OpenSpec.ofChange tableOrderWrong)

/-- 'catchmentlaw07.TableUnlike': WHATEVER THE INPUT: true; the input reads as it did. -/
def tableUnlikeSpec : ChangeSpec := { name := "tableUnlike", fn := fun _ => fun
  | [d1, d2, d3] => { results := [.lit (.bool true)], args := [d1, d2, d3] }
  | _ => none }
def tableUnlikeRow : OpenClaim := { program := "ytbhajmecaemafaa", sum := "292124305858507d6e26d9401812db86f4c91e4af54706757facfa9d13016f86", func := "catchment/catchmentlaw07.TableUnlike", spec := "tableUnlike", plainKeys := false, apart := false }
def TableUnlikeSaid : Prop := tableUnlikeRow.holds Try.pinned (OpenSpec.ofChange tableUnlikeSpec)

/-- ITS FALSE NEIGHBOUR: 'it returns false'. Refute it at one input. -/
def tableUnlikeWrong : ChangeSpec := { name := "tableUnlike", fn := fun _ => fun
  | [d1, d2, d3] => { results := [.lit (.bool false)], args := [d1, d2, d3] }
  | _ => none }
def TableUnlikeWrongFalsely : Prop := tableUnlikeRow.holds Try.pinned (OpenSpec.ofChange tableUnlikeWrong)

/-- 'catchmentlaw07.TableRest': WHATEVER THE INPUT: true; the input reads as it did. -/
def tableRestSpec : ChangeSpec := { name := "tableRest", fn := fun _ => fun
  | [d1, d2, d3] => { results := [.lit (.bool true)], args := [d1, d2, d3] }
  | _ => none }
def tableRestRow : OpenClaim := { program := "ytbhajmecaemafaa", sum := "292124305858507d6e26d9401812db86f4c91e4af54706757facfa9d13016f86", func := "catchment/catchmentlaw07.TableRest", spec := "tableRest", plainKeys := false, apart := false }
def TableRestSaid : Prop := tableRestRow.holds Try.pinned (OpenSpec.ofChange tableRestSpec)

/-- ITS FALSE NEIGHBOUR: 'it returns false'. Refute it at one input. -/
def tableRestWrong : ChangeSpec := { name := "tableRest", fn := fun _ => fun
  | [d1, d2, d3] => { results := [.lit (.bool false)], args := [d1, d2, d3] }
  | _ => none }
def TableRestWrongFalsely : Prop := tableRestRow.holds Try.pinned (OpenSpec.ofChange tableRestWrong)

/-- 'catchmentlaw07.TableLimits': WHATEVER THE INPUT: true; the input reads as it did. -/
def tableLimitsSpec : ChangeSpec := { name := "tableLimits", fn := fun _ => fun
  | [d1, d2] => { results := [.lit (.bool true)], args := [d1, d2] }
  | _ => none }
def tableLimitsRow : OpenClaim := { program := "ytbhajmecaemafaa", sum := "292124305858507d6e26d9401812db86f4c91e4af54706757facfa9d13016f86", func := "catchment/catchmentlaw07.TableLimits", spec := "tableLimits", plainKeys := false, apart := false }
def TableLimitsSaid : Prop := tableLimitsRow.holds Try.pinned (OpenSpec.ofChange tableLimitsSpec)

/-- ITS FALSE NEIGHBOUR: 'it returns false'. Refute it at one input. -/
def tableLimitsWrong : ChangeSpec := { name := "tableLimits", fn := fun _ => fun
  | [d1, d2] => { results := [.lit (.bool false)], args := [d1, d2] }
  | _ => none }
def TableLimitsWrongFalsely : Prop := tableLimitsRow.holds Try.pinned (OpenSpec.ofChange tableLimitsWrong)

/- THE SECOND FORM. 'bulk': how many values and letters a reading holds, each counted each time it is reached (what is shared counts as often as it is met; a slice's spare places count too). A statement '..UptoSaid' is the law's where the arguments, and the package variables that the reading takes, are together of bulk at most 1048576: NARROWER than '..Said'. Prove '..Said' where nothing that the law and all that it calls make is longer than what came in: it says more and counts as full. Else prove '..UptoSaid'. A law counts once. -/
mutual
def uptoBulk {H : Type} : DataW H → Nat
  | .lit (.string bytes) => bytes.length + 1
  | .lit _ => 1
  | .nil => 1
  | .ptr d => uptoBulk d + 1
  | .slice elems spare => uptoBulkAll elems + uptoBulkAll spare + 1
  | .agg parts => uptoBulkAll parts + 1
  | .iface _ d => uptoBulk d + 1
  | .map entries => uptoBulkEntries entries + 1
  | .held _ => 1
def uptoBulkAll {H : Type} : List (DataW H) → Nat
  | [] => 0
  | d :: r => uptoBulk d + uptoBulkAll r
def uptoBulkEntries {H : Type} : List (Lit × DataW H) → Nat
  | [] => 0
  | x :: r => uptoBulkEntry x + uptoBulkEntries r
def uptoBulkEntry {H : Type} : Lit × DataW H → Nat
  | (.string bytes, d) => bytes.length + uptoBulk d + 1
  | (_, d) => uptoBulk d + 1
 end
def uptoSmall : (H : Type) → List (DataW H) → Bool := fun _ ds => decide (uptoBulkAll ds ≤ 1048576)
def OpenSpec.upto (s : _root_.Go.ChangeSpec) : _root_.Go.OpenSpec := { _root_.Go.OpenSpec.ofChange s with cond := some uptoSmall }

/-- 'catchmentlaw07.TableTells', WHERE WHAT IT READS IS OF BULK AT MOST 1048576: true; the input reads as it did. -/
def tableTellsUptoRow : OpenClaim := { program := "ytbhajmecaemafaa", sum := "292124305858507d6e26d9401812db86f4c91e4af54706757facfa9d13016f86", func := "catchment/catchmentlaw07.TableTells", spec := "tableTells", plainKeys := false, apart := false, narrowed := true }
def TableTellsUptoSaid : Prop := tableTellsUptoRow.holds Try.pinned (OpenSpec.upto tableTellsSpec)

/-- 'catchmentlaw07.TableOrder', WHERE WHAT IT READS IS OF BULK AT MOST 1048576: true; the input reads as it did. -/
def tableOrderUptoRow : OpenClaim := { program := "ytbhajmecaemafaa", sum := "292124305858507d6e26d9401812db86f4c91e4af54706757facfa9d13016f86", func := "catchment/catchmentlaw07.TableOrder", spec := "tableOrder", plainKeys := false, apart := false, narrowed := true }
def TableOrderUptoSaid : Prop := tableOrderUptoRow.holds Try.pinned (OpenSpec.upto tableOrderSpec)

/-- 'catchmentlaw07.TableUnlike', WHERE WHAT IT READS IS OF BULK AT MOST 1048576: true; the input reads as it did. -/
def tableUnlikeUptoRow : OpenClaim := { program := "ytbhajmecaemafaa", sum := "292124305858507d6e26d9401812db86f4c91e4af54706757facfa9d13016f86", func := "catchment/catchmentlaw07.TableUnlike", spec := "tableUnlike", plainKeys := false, apart := false, narrowed := true }
def TableUnlikeUptoSaid : Prop := tableUnlikeUptoRow.holds Try.pinned (OpenSpec.upto tableUnlikeSpec)

/-- 'catchmentlaw07.TableRest', WHERE WHAT IT READS IS OF BULK AT MOST 1048576: true; the input reads as it did. -/
def tableRestUptoRow : OpenClaim := { program := "ytbhajmecaemafaa", sum := "292124305858507d6e26d9401812db86f4c91e4af54706757facfa9d13016f86", func := "catchment/catchmentlaw07.TableRest", spec := "tableRest", plainKeys := false, apart := false, narrowed := true }
def TableRestUptoSaid : Prop := tableRestUptoRow.holds Try.pinned (OpenSpec.upto tableRestSpec)

/-- 'catchmentlaw07.TableLimits', WHERE WHAT IT READS IS OF BULK AT MOST 1048576: true; the input reads as it did. -/
def tableLimitsUptoRow : OpenClaim := { program := "ytbhajmecaemafaa", sum := "292124305858507d6e26d9401812db86f4c91e4af54706757facfa9d13016f86", func := "catchment/catchmentlaw07.TableLimits", spec := "tableLimits", plainKeys := false, apart := false, narrowed := true }
def TableLimitsUptoSaid : Prop := tableLimitsUptoRow.holds Try.pinned (OpenSpec.upto tableLimitsSpec)

end Rows
end Go.Proofs.Ytbhajmecaemafaa
