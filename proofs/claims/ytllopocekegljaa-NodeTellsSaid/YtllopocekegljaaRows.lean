/-
  No cell of these rows narrows 'for every input' (looked for: loops, veiled, ifaces, maps, wideKeys, modest, calm, conditions, laid).
  DERIVED. THE GIVEN ROWS OF THIS SEAT. 6 by the template 'for every input the law returns true; each argument reads behind the call as it read before'; 0 by the template 'total and deterministic' (their statements: YtllopocekegljaaTotals.lean).
  GIVEN WITH THE SEED: the statements are not yours to turn. If you find one false, say at which input.
  Laid BY PROGRAM, IN A SANDBOX (cutbox-rows.mjs): the forced cells as the released guide's own fill.sh prints them over the translation 24cad6770bbc2359… (all of the seat's roots in one cut). By AI agents, Wed Nov 11 2026. No macro, syntax, notation, axiom, sorry.
-/
import Derived.Test.YtllopocekegljaaChecked
import GoSem.Claim
import GoSem.ClaimJoined
import GoSem.ClaimMapViews
import Derived.JoinedTies
import Derived.KernelRfl
namespace Go.Proofs.Ytllopocekegljaa
/- THE CELL 'sum', in the pinned program and in every row, IS THE sha256 OF THE DUMP (.gsa) THAT YtllopocekegljaaProg.lean LOADS. Nothing in Lean hashes anything: it is a label: what it is worth is what the hold of that sum in a sandbox is worth. -/
noncomputable def Try.pinned : Pinned := { name := "ytllopocekegljaa", sum := "24cad6770bbc2359bdeac45219a94c9dc10d1150558518bce89334ccb09b1b73", checked := Try.checked }
namespace Rows
def none {H : Type} : Left H := { results := [], args := [] }

/-- 'catchmentlaw12.NodeTells': WHATEVER THE INPUT: true; the input reads as it did. -/
def nodeTellsSpec : ChangeSpec := { name := "nodeTells", fn := fun _ => fun
  | [d1, d2, d3, d4] => { results := [.lit (.bool true)], args := [d1, d2, d3, d4] }
  | _ => none }
def nodeTellsRow : OpenClaim := { program := "ytllopocekegljaa", sum := "24cad6770bbc2359bdeac45219a94c9dc10d1150558518bce89334ccb09b1b73", func := "catchment/catchmentlaw12.NodeTells", spec := "nodeTells", apart := false }
def NodeTellsSaid : Prop := nodeTellsRow.holds Try.pinned (OpenSpec.ofChange nodeTellsSpec)

/-- ITS FALSE NEIGHBOUR: 'it returns false'. Refute it at one input. -/
def nodeTellsWrong : ChangeSpec := { name := "nodeTells", fn := fun _ => fun
  | [d1, d2, d3, d4] => { results := [.lit (.bool false)], args := [d1, d2, d3, d4] }
  | _ => none }
def NodeTellsWrongFalsely : Prop := nodeTellsRow.holds Try.pinned (OpenSpec.ofChange nodeTellsWrong)

/-- 'catchmentlaw12.NodePut': WHATEVER THE INPUT: true; the input reads as it did. -/
def nodePutSpec : ChangeSpec := { name := "nodePut", fn := fun _ => fun
  | [d1, d2, d3] => { results := [.lit (.bool true)], args := [d1, d2, d3] }
  | _ => none }
def nodePutRow : OpenClaim := { program := "ytllopocekegljaa", sum := "24cad6770bbc2359bdeac45219a94c9dc10d1150558518bce89334ccb09b1b73", func := "catchment/catchmentlaw12.NodePut", spec := "nodePut", apart := false }
def NodePutSaid : Prop := nodePutRow.holds Try.pinned (OpenSpec.ofChange nodePutSpec)

/-- ITS FALSE NEIGHBOUR: 'it returns false'. Refute it at one input. -/
def nodePutWrong : ChangeSpec := { name := "nodePut", fn := fun _ => fun
  | [d1, d2, d3] => { results := [.lit (.bool false)], args := [d1, d2, d3] }
  | _ => none }
def NodePutWrongFalsely : Prop := nodePutRow.holds Try.pinned (OpenSpec.ofChange nodePutWrong)

/-- 'catchmentlaw12.NodeHalves': WHATEVER THE INPUT: true; the input reads as it did. -/
def nodeHalvesSpec : ChangeSpec := { name := "nodeHalves", fn := fun _ => fun
  | [d1, d2] => { results := [.lit (.bool true)], args := [d1, d2] }
  | _ => none }
def nodeHalvesRow : OpenClaim := { program := "ytllopocekegljaa", sum := "24cad6770bbc2359bdeac45219a94c9dc10d1150558518bce89334ccb09b1b73", func := "catchment/catchmentlaw12.NodeHalves", spec := "nodeHalves", apart := false }
def NodeHalvesSaid : Prop := nodeHalvesRow.holds Try.pinned (OpenSpec.ofChange nodeHalvesSpec)

/-- ITS FALSE NEIGHBOUR: 'it returns false'. Refute it at one input. -/
def nodeHalvesWrong : ChangeSpec := { name := "nodeHalves", fn := fun _ => fun
  | [d1, d2] => { results := [.lit (.bool false)], args := [d1, d2] }
  | _ => none }
def NodeHalvesWrongFalsely : Prop := nodeHalvesRow.holds Try.pinned (OpenSpec.ofChange nodeHalvesWrong)

/-- 'catchmentlaw12.NodeJoin': WHATEVER THE INPUT: true; the input reads as it did. -/
def nodeJoinSpec : ChangeSpec := { name := "nodeJoin", fn := fun _ => fun
  | [d1, d2] => { results := [.lit (.bool true)], args := [d1, d2] }
  | _ => none }
def nodeJoinRow : OpenClaim := { program := "ytllopocekegljaa", sum := "24cad6770bbc2359bdeac45219a94c9dc10d1150558518bce89334ccb09b1b73", func := "catchment/catchmentlaw12.NodeJoin", spec := "nodeJoin", apart := false }
def NodeJoinSaid : Prop := nodeJoinRow.holds Try.pinned (OpenSpec.ofChange nodeJoinSpec)

/-- ITS FALSE NEIGHBOUR: 'it returns false'. Refute it at one input. -/
def nodeJoinWrong : ChangeSpec := { name := "nodeJoin", fn := fun _ => fun
  | [d1, d2] => { results := [.lit (.bool false)], args := [d1, d2] }
  | _ => none }
def NodeJoinWrongFalsely : Prop := nodeJoinRow.holds Try.pinned (OpenSpec.ofChange nodeJoinWrong)

/-- 'catchmentlaw12.NodeCut': WHATEVER THE INPUT: true; the input reads as it did. -/
def nodeCutSpec : ChangeSpec := { name := "nodeCut", fn := fun _ => fun
  | [d1, d2, d3, d4] => { results := [.lit (.bool true)], args := [d1, d2, d3, d4] }
  | _ => none }
def nodeCutRow : OpenClaim := { program := "ytllopocekegljaa", sum := "24cad6770bbc2359bdeac45219a94c9dc10d1150558518bce89334ccb09b1b73", func := "catchment/catchmentlaw12.NodeCut", spec := "nodeCut", apart := false }
def NodeCutSaid : Prop := nodeCutRow.holds Try.pinned (OpenSpec.ofChange nodeCutSpec)

/-- ITS FALSE NEIGHBOUR: 'it returns false'. Refute it at one input. -/
def nodeCutWrong : ChangeSpec := { name := "nodeCut", fn := fun _ => fun
  | [d1, d2, d3, d4] => { results := [.lit (.bool false)], args := [d1, d2, d3, d4] }
  | _ => none }
def NodeCutWrongFalsely : Prop := nodeCutRow.holds Try.pinned (OpenSpec.ofChange nodeCutWrong)

/-- 'catchmentlaw12.NodeOwn': WHATEVER THE INPUT: true; the input reads as it did. -/
def nodeOwnSpec : ChangeSpec := { name := "nodeOwn", fn := fun _ => fun
  | [d1, d2, d3] => { results := [.lit (.bool true)], args := [d1, d2, d3] }
  | _ => none }
def nodeOwnRow : OpenClaim := { program := "ytllopocekegljaa", sum := "24cad6770bbc2359bdeac45219a94c9dc10d1150558518bce89334ccb09b1b73", func := "catchment/catchmentlaw12.NodeOwn", spec := "nodeOwn", apart := false }
def NodeOwnSaid : Prop := nodeOwnRow.holds Try.pinned (OpenSpec.ofChange nodeOwnSpec)

/-- ITS FALSE NEIGHBOUR: 'it returns false'. Refute it at one input. -/
def nodeOwnWrong : ChangeSpec := { name := "nodeOwn", fn := fun _ => fun
  | [d1, d2, d3] => { results := [.lit (.bool false)], args := [d1, d2, d3] }
  | _ => none }
def NodeOwnWrongFalsely : Prop := nodeOwnRow.holds Try.pinned (OpenSpec.ofChange nodeOwnWrong)

/- THE SECOND FORM. 'bulk': how many values and letters a reading holds, each counted each time it is reached (what is shared counts as often as it is met; a slice's spare places count too). A statement '..UptoSaid' is the law's where the arguments, and the package variables that the reading takes, are together of bulk at most 1048576: NARROWER than '..Said'. Prove '..Said' where nothing that the law and all that it calls make is longer than what came in: it says more and counts as full. Else prove '..UptoSaid'. A law counts once. -/
mutual
def uptoBulk {H : Type} : DataW H → Nat
  | .lit (.string bytes) => bytes.length + 1
  | .lit _ => 1
  | .nil => 1
  | .ptr d => uptoBulk d + 1
  | .slice elems spare => uptoBulkAll elems + uptoBulkAll spare + 1
  | .agg parts => uptoBulkAll parts + 1
  | .iface _ d => uptoBulk d + 1
  | .map entries => uptoBulkEntries entries + 1
  | .held _ => 1
def uptoBulkAll {H : Type} : List (DataW H) → Nat
  | [] => 0
  | d :: r => uptoBulk d + uptoBulkAll r
def uptoBulkEntries {H : Type} : List (Lit × DataW H) → Nat
  | [] => 0
  | x :: r => uptoBulkEntry x + uptoBulkEntries r
def uptoBulkEntry {H : Type} : Lit × DataW H → Nat
  | (.string bytes, d) => bytes.length + uptoBulk d + 1
  | (_, d) => uptoBulk d + 1
 end
def uptoSmall : (H : Type) → List (DataW H) → Bool := fun _ ds => decide (uptoBulkAll ds ≤ 1048576)
def OpenSpec.upto (s : _root_.Go.ChangeSpec) : _root_.Go.OpenSpec := { _root_.Go.OpenSpec.ofChange s with cond := some uptoSmall }

/-- 'catchmentlaw12.NodeTells', WHERE WHAT IT READS IS OF BULK AT MOST 1048576: true; the input reads as it did. -/
def nodeTellsUptoRow : OpenClaim := { program := "ytllopocekegljaa", sum := "24cad6770bbc2359bdeac45219a94c9dc10d1150558518bce89334ccb09b1b73", func := "catchment/catchmentlaw12.NodeTells", spec := "nodeTells", apart := false, narrowed := true }
def NodeTellsUptoSaid : Prop := nodeTellsUptoRow.holds Try.pinned (OpenSpec.upto nodeTellsSpec)

/-- 'catchmentlaw12.NodePut', WHERE WHAT IT READS IS OF BULK AT MOST 1048576: true; the input reads as it did. -/
def nodePutUptoRow : OpenClaim := { program := "ytllopocekegljaa", sum := "24cad6770bbc2359bdeac45219a94c9dc10d1150558518bce89334ccb09b1b73", func := "catchment/catchmentlaw12.NodePut", spec := "nodePut", apart := false, narrowed := true }
def NodePutUptoSaid : Prop := nodePutUptoRow.holds Try.pinned (OpenSpec.upto nodePutSpec)

/-- 'catchmentlaw12.NodeHalves', WHERE WHAT IT READS IS OF BULK AT MOST 1048576: true; the input reads as it did. -/
def nodeHalvesUptoRow : OpenClaim := { program := "ytllopocekegljaa", sum := "24cad6770bbc2359bdeac45219a94c9dc10d1150558518bce89334ccb09b1b73", func := "catchment/catchmentlaw12.NodeHalves", spec := "nodeHalves", apart := false, narrowed := true }
def NodeHalvesUptoSaid : Prop := nodeHalvesUptoRow.holds Try.pinned (OpenSpec.upto nodeHalvesSpec)

/-- 'catchmentlaw12.NodeJoin', WHERE WHAT IT READS IS OF BULK AT MOST 1048576: true; the input reads as it did. -/
def nodeJoinUptoRow : OpenClaim := { program := "ytllopocekegljaa", sum := "24cad6770bbc2359bdeac45219a94c9dc10d1150558518bce89334ccb09b1b73", func := "catchment/catchmentlaw12.NodeJoin", spec := "nodeJoin", apart := false, narrowed := true }
def NodeJoinUptoSaid : Prop := nodeJoinUptoRow.holds Try.pinned (OpenSpec.upto nodeJoinSpec)

/-- 'catchmentlaw12.NodeCut', WHERE WHAT IT READS IS OF BULK AT MOST 1048576: true; the input reads as it did. -/
def nodeCutUptoRow : OpenClaim := { program := "ytllopocekegljaa", sum := "24cad6770bbc2359bdeac45219a94c9dc10d1150558518bce89334ccb09b1b73", func := "catchment/catchmentlaw12.NodeCut", spec := "nodeCut", apart := false, narrowed := true }
def NodeCutUptoSaid : Prop := nodeCutUptoRow.holds Try.pinned (OpenSpec.upto nodeCutSpec)

/-- 'catchmentlaw12.NodeOwn', WHERE WHAT IT READS IS OF BULK AT MOST 1048576: true; the input reads as it did. -/
def nodeOwnUptoRow : OpenClaim := { program := "ytllopocekegljaa", sum := "24cad6770bbc2359bdeac45219a94c9dc10d1150558518bce89334ccb09b1b73", func := "catchment/catchmentlaw12.NodeOwn", spec := "nodeOwn", apart := false, narrowed := true }
def NodeOwnUptoSaid : Prop := nodeOwnUptoRow.holds Try.pinned (OpenSpec.upto nodeOwnSpec)

end Rows
end Go.Proofs.Ytllopocekegljaa
