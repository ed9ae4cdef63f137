/-
  No cell of these rows narrows 'for every input' (looked for: loops, veiled, ifaces, maps, wideKeys, modest, calm, conditions, laid).
  DERIVED. THE GIVEN ROWS OF THIS SEAT. 6 by the template 'for every input the law returns true; each argument reads behind the call as it read before'; 0 by the template 'total and deterministic' (their statements: YtkjdagjhbjpcnaaTotals.lean).
  GIVEN WITH THE SEED: the statements are not yours to turn. If you find one false, say at which input.
  Laid BY PROGRAM, IN A SANDBOX (cutbox-rows.mjs): the forced cells as the released guide's own fill.sh prints them over the translation 17aaba4239eff0b1… (all of the seat's roots in one cut). By AI agents, Wed Nov 11 2026. No macro, syntax, notation, axiom, sorry.
-/
import Derived.Test.YtkjdagjhbjpcnaaChecked
import GoSem.Claim
import GoSem.ClaimJoined
import GoSem.ClaimMapViews
import Derived.JoinedTies
import Derived.KernelRfl
namespace Go.Proofs.Ytkjdagjhbjpcnaa
/- THE CELL 'sum', in the pinned program and in every row, IS THE sha256 OF THE DUMP (.gsa) THAT YtkjdagjhbjpcnaaProg.lean LOADS. Nothing in Lean hashes anything: it is a label: what it is worth is what the hold of that sum in a sandbox is worth. -/
noncomputable def Try.pinned : Pinned := { name := "ytkjdagjhbjpcnaa", sum := "17aaba4239eff0b16ee6125f1ac924681cb2f75e9029d4485d7b1ff77bc7481c", checked := Try.checked }
namespace Rows
def none {H : Type} : Left H := { results := [], args := [] }

/-- 'catchmentlaw09.PickTells': WHATEVER THE INPUT: true; the input reads as it did. -/
def pickTellsSpec : ChangeSpec := { name := "pickTells", fn := fun _ => fun
  | [d1, d2, d3] => { results := [.lit (.bool true)], args := [d1, d2, d3] }
  | _ => none }
def pickTellsRow : OpenClaim := { program := "ytkjdagjhbjpcnaa", sum := "17aaba4239eff0b16ee6125f1ac924681cb2f75e9029d4485d7b1ff77bc7481c", func := "catchment/catchmentlaw09.PickTells", spec := "pickTells", apart := false }
def PickTellsSaid : Prop := pickTellsRow.holds Try.pinned (OpenSpec.ofChange pickTellsSpec)

/-- ITS FALSE NEIGHBOUR: 'it returns false'. Refute it at one input. -/
def pickTellsWrong : ChangeSpec := { name := "pickTells", fn := fun _ => fun
  | [d1, d2, d3] => { results := [.lit (.bool false)], args := [d1, d2, d3] }
  | _ => none }
def PickTellsWrongFalsely : Prop := pickTellsRow.holds Try.pinned (OpenSpec.ofChange pickTellsWrong)

/-- 'catchmentlaw09.PickAll': WHATEVER THE INPUT: true; the input reads as it did. -/
def pickAllSpec : ChangeSpec := { name := "pickAll", fn := fun _ => fun
  | [d1, d2, d3] => { results := [.lit (.bool true)], args := [d1, d2, d3] }
  | _ => none }
def pickAllRow : OpenClaim := { program := "ytkjdagjhbjpcnaa", sum := "17aaba4239eff0b16ee6125f1ac924681cb2f75e9029d4485d7b1ff77bc7481c", func := "catchment/catchmentlaw09.PickAll", spec := "pickAll", apart := false }
def PickAllSaid : Prop := pickAllRow.holds Try.pinned (OpenSpec.ofChange pickAllSpec)

/-- ITS FALSE NEIGHBOUR: 'it returns false'. Refute it at one input. -/
def pickAllWrong : ChangeSpec := { name := "pickAll", fn := fun _ => fun
  | [d1, d2, d3] => { results := [.lit (.bool false)], args := [d1, d2, d3] }
  | _ => none }
def PickAllWrongFalsely : Prop := pickAllRow.holds Try.pinned (OpenSpec.ofChange pickAllWrong)

/-- 'catchmentlaw09.PickTurn': WHATEVER THE INPUT: true; the input reads as it did. -/
def pickTurnSpec : ChangeSpec := { name := "pickTurn", fn := fun _ => fun
  | [d1, d2] => { results := [.lit (.bool true)], args := [d1, d2] }
  | _ => none }
def pickTurnRow : OpenClaim := { program := "ytkjdagjhbjpcnaa", sum := "17aaba4239eff0b16ee6125f1ac924681cb2f75e9029d4485d7b1ff77bc7481c", func := "catchment/catchmentlaw09.PickTurn", spec := "pickTurn", apart := false }
def PickTurnSaid : Prop := pickTurnRow.holds Try.pinned (OpenSpec.ofChange pickTurnSpec)

/-- ITS FALSE NEIGHBOUR: 'it returns false'. Refute it at one input. -/
def pickTurnWrong : ChangeSpec := { name := "pickTurn", fn := fun _ => fun
  | [d1, d2] => { results := [.lit (.bool false)], args := [d1, d2] }
  | _ => none }
def PickTurnWrongFalsely : Prop := pickTurnRow.holds Try.pinned (OpenSpec.ofChange pickTurnWrong)

/-- 'catchmentlaw09.PickWaits': WHATEVER THE INPUT: true; the input reads as it did. -/
def pickWaitsSpec : ChangeSpec := { name := "pickWaits", fn := fun _ => fun
  | [d] => { results := [.lit (.bool true)], args := [d] }
  | _ => none }
def pickWaitsRow : OpenClaim := { program := "ytkjdagjhbjpcnaa", sum := "17aaba4239eff0b16ee6125f1ac924681cb2f75e9029d4485d7b1ff77bc7481c", func := "catchment/catchmentlaw09.PickWaits", spec := "pickWaits", unfollowed := true, recurses := true, apart := false }
def PickWaitsSaid : Prop := pickWaitsRow.holds Try.pinned (OpenSpec.ofChange pickWaitsSpec)

/-- ITS FALSE NEIGHBOUR: 'it returns false'. Refute it at one input. -/
def pickWaitsWrong : ChangeSpec := { name := "pickWaits", fn := fun _ => fun
  | [d] => { results := [.lit (.bool false)], args := [d] }
  | _ => none }
def PickWaitsWrongFalsely : Prop := pickWaitsRow.holds Try.pinned (OpenSpec.ofChange pickWaitsWrong)

/-- 'catchmentlaw09.PickAsked': WHATEVER THE INPUT: true; the input reads as it did. -/
def pickAskedSpec : ChangeSpec := { name := "pickAsked", fn := fun _ => fun
  | [d1, d2, d3] => { results := [.lit (.bool true)], args := [d1, d2, d3] }
  | _ => none }
def pickAskedRow : OpenClaim := { program := "ytkjdagjhbjpcnaa", sum := "17aaba4239eff0b16ee6125f1ac924681cb2f75e9029d4485d7b1ff77bc7481c", func := "catchment/catchmentlaw09.PickAsked", spec := "pickAsked", apart := false }
def PickAskedSaid : Prop := pickAskedRow.holds Try.pinned (OpenSpec.ofChange pickAskedSpec)

/-- ITS FALSE NEIGHBOUR: 'it returns false'. Refute it at one input. -/
def pickAskedWrong : ChangeSpec := { name := "pickAsked", fn := fun _ => fun
  | [d1, d2, d3] => { results := [.lit (.bool false)], args := [d1, d2, d3] }
  | _ => none }
def PickAskedWrongFalsely : Prop := pickAskedRow.holds Try.pinned (OpenSpec.ofChange pickAskedWrong)

/-- 'catchmentlaw09.PickNone': WHATEVER THE INPUT: true; the input reads as it did. -/
def pickNoneSpec : ChangeSpec := { name := "pickNone", fn := fun _ => fun
  | [d] => { results := [.lit (.bool true)], args := [d] }
  | _ => none }
def pickNoneRow : OpenClaim := { program := "ytkjdagjhbjpcnaa", sum := "17aaba4239eff0b16ee6125f1ac924681cb2f75e9029d4485d7b1ff77bc7481c", func := "catchment/catchmentlaw09.PickNone", spec := "pickNone", apart := false }
def PickNoneSaid : Prop := pickNoneRow.holds Try.pinned (OpenSpec.ofChange pickNoneSpec)

/-- ITS FALSE NEIGHBOUR: 'it returns false'. Refute it at one input. -/
def pickNoneWrong : ChangeSpec := { name := "pickNone", fn := fun _ => fun
  | [d] => { results := [.lit (.bool false)], args := [d] }
  | _ => none }
def PickNoneWrongFalsely : Prop := pickNoneRow.holds Try.pinned (OpenSpec.ofChange pickNoneWrong)

/- THE SECOND FORM. 'bulk': how many values and letters a reading holds, each counted each time it is reached (what is shared counts as often as it is met; a slice's spare places count too). A statement '..UptoSaid' is the law's where the arguments, and the package variables that the reading takes, are together of bulk at most 1048576: NARROWER than '..Said'. Prove '..Said' where nothing that the law and all that it calls make is longer than what came in: it says more and counts as full. Else prove '..UptoSaid'. A law counts once. -/
mutual
def uptoBulk {H : Type} : DataW H → Nat
  | .lit (.string bytes) => bytes.length + 1
  | .lit _ => 1
  | .nil => 1
  | .ptr d => uptoBulk d + 1
  | .slice elems spare => uptoBulkAll elems + uptoBulkAll spare + 1
  | .agg parts => uptoBulkAll parts + 1
  | .iface _ d => uptoBulk d + 1
  | .map entries => uptoBulkEntries entries + 1
  | .held _ => 1
def uptoBulkAll {H : Type} : List (DataW H) → Nat
  | [] => 0
  | d :: r => uptoBulk d + uptoBulkAll r
def uptoBulkEntries {H : Type} : List (Lit × DataW H) → Nat
  | [] => 0
  | x :: r => uptoBulkEntry x + uptoBulkEntries r
def uptoBulkEntry {H : Type} : Lit × DataW H → Nat
  | (.string bytes, d) => bytes.length + uptoBulk d + 1
  | (_, d) => uptoBulk d + 1
 end
def uptoSmall : (H : Type) → List (DataW H) → Bool := fun _ ds => decide (uptoBulkAll ds ≤ 1048576)
def OpenSpec.upto (s : _root_.Go.ChangeSpec) : _root_.Go.OpenSpec := { _root_.Go.OpenSpec.ofChange s with cond := some uptoSmall }

/-- 'catchmentlaw09.PickTells', WHERE WHAT IT READS IS OF BULK AT MOST 1048576: true; the input reads as it did. -/
def pickTellsUptoRow : OpenClaim := { program := "ytkjdagjhbjpcnaa", sum := "17aaba4239eff0b16ee6125f1ac924681cb2f75e9029d4485d7b1ff77bc7481c", func := "catchment/catchmentlaw09.PickTells", spec := "pickTells", apart := false, narrowed := true }
def PickTellsUptoSaid : Prop := pickTellsUptoRow.holds Try.pinned (OpenSpec.upto pickTellsSpec)

/-- 'catchmentlaw09.PickAll', WHERE WHAT IT READS IS OF BULK AT MOST 1048576: true; the input reads as it did. -/
def pickAllUptoRow : OpenClaim := { program := "ytkjdagjhbjpcnaa", sum := "17aaba4239eff0b16ee6125f1ac924681cb2f75e9029d4485d7b1ff77bc7481c", func := "catchment/catchmentlaw09.PickAll", spec := "pickAll", apart := false, narrowed := true }
def PickAllUptoSaid : Prop := pickAllUptoRow.holds Try.pinned (OpenSpec.upto pickAllSpec)

/-- 'catchmentlaw09.PickTurn', WHERE WHAT IT READS IS OF BULK AT MOST 1048576: true; the input reads as it did. -/
def pickTurnUptoRow : OpenClaim := { program := "ytkjdagjhbjpcnaa", sum := "17aaba4239eff0b16ee6125f1ac924681cb2f75e9029d4485d7b1ff77bc7481c", func := "catchment/catchmentlaw09.PickTurn", spec := "pickTurn", apart := false, narrowed := true }
def PickTurnUptoSaid : Prop := pickTurnUptoRow.holds Try.pinned (OpenSpec.upto pickTurnSpec)

/-- 'catchmentlaw09.PickWaits', WHERE WHAT IT READS IS OF BULK AT MOST 1048576: true; the input reads as it did. -/
def pickWaitsUptoRow : OpenClaim := { program := "ytkjdagjhbjpcnaa", sum := "17aaba4239eff0b16ee6125f1ac924681cb2f75e9029d4485d7b1ff77bc7481c", func := "catchment/catchmentlaw09.PickWaits", spec := "pickWaits", unfollowed := true, recurses := true, apart := false, narrowed := true }
def PickWaitsUptoSaid : Prop := pickWaitsUptoRow.holds Try.pinned (OpenSpec.upto pickWaitsSpec)

/-- 'catchmentlaw09.PickAsked', WHERE WHAT IT READS IS OF BULK AT MOST 1048576: true; the input reads as it did. -/
def pickAskedUptoRow : OpenClaim := { program := "ytkjdagjhbjpcnaa", sum := "17aaba4239eff0b16ee6125f1ac924681cb2f75e9029d4485d7b1ff77bc7481c", func := "catchment/catchmentlaw09.PickAsked", spec := "pickAsked", apart := false, narrowed := true }
def PickAskedUptoSaid : Prop := pickAskedUptoRow.holds Try.pinned (OpenSpec.upto pickAskedSpec)

/-- 'catchmentlaw09.PickNone', WHERE WHAT IT READS IS OF BULK AT MOST 1048576: true; the input reads as it did. -/
def pickNoneUptoRow : OpenClaim := { program := "ytkjdagjhbjpcnaa", sum := "17aaba4239eff0b16ee6125f1ac924681cb2f75e9029d4485d7b1ff77bc7481c", func := "catchment/catchmentlaw09.PickNone", spec := "pickNone", apart := false, narrowed := true }
def PickNoneUptoSaid : Prop := pickNoneUptoRow.holds Try.pinned (OpenSpec.upto pickNoneSpec)

end Rows
end Go.Proofs.Ytkjdagjhbjpcnaa
