/-
  No cell of these rows narrows 'for every input' (looked for: loops, veiled, ifaces, maps, wideKeys, modest, calm, conditions, laid).
  DERIVED. THE GIVEN ROWS OF THIS SEAT. 5 by the template 'for every input the law returns true; each argument reads behind the call as it read before'; 0 by the template 'total and deterministic' (their statements: YtlemjegngnfanaaTotals.lean).
  GIVEN WITH THE SEED: the statements are not yours to turn. If you find one false, say at which input.
  Laid BY PROGRAM, IN A SANDBOX (cutbox-rows.mjs): the forced cells as the released guide's own fill.sh prints them over the translation 493cab71b4f52445… (all of the seat's roots in one cut). By AI agents, Wed Nov 11 2026. No macro, syntax, notation, axiom, sorry.
-/
import Derived.Test.YtlemjegngnfanaaChecked
import GoSem.Claim
import GoSem.ClaimJoined
import GoSem.ClaimMapViews
import Derived.JoinedTies
import Derived.KernelRfl
namespace Go.Proofs.Ytlemjegngnfanaa
/- THE CELL 'sum', in the pinned program and in every row, IS THE sha256 OF THE DUMP (.gsa) THAT YtlemjegngnfanaaProg.lean LOADS. Nothing in Lean hashes anything: it is a label: what it is worth is what the hold of that sum in a sandbox is worth. -/
noncomputable def Try.pinned : Pinned := { name := "ytlemjegngnfanaa", sum := "493cab71b4f52445d751bc7e8f4779226481ab6dd78de92a1dbbae6fc51bcbf4", checked := Try.checked }
namespace Rows
def none {H : Type} : Left H := { results := [], args := [] }

/-- 'catchmentlaw10.PlaceTells': WHATEVER THE INPUT: true; the input reads as it did. -/
def placeTellsSpec : ChangeSpec := { name := "placeTells", fn := fun _ => fun
  | [d1, d2] => { results := [.lit (.bool true)], args := [d1, d2] }
  | _ => none }
def placeTellsRow : OpenClaim := { program := "ytlemjegngnfanaa", sum := "493cab71b4f52445d751bc7e8f4779226481ab6dd78de92a1dbbae6fc51bcbf4", func := "catchment/catchmentlaw10.PlaceTells", spec := "placeTells", unfollowed := true, recurses := true, apart := false }
def PlaceTellsSaid : Prop := placeTellsRow.holds Try.pinned (OpenSpec.ofChange placeTellsSpec)

/-- ITS FALSE NEIGHBOUR: 'it returns false'. Refute it at one input. -/
def placeTellsWrong : ChangeSpec := { name := "placeTells", fn := fun _ => fun
  | [d1, d2] => { results := [.lit (.bool false)], args := [d1, d2] }
  | _ => none }
def PlaceTellsWrongFalsely : Prop := placeTellsRow.holds Try.pinned (OpenSpec.ofChange placeTellsWrong)

/-- 'catchmentlaw10.PlaceClosed': WHATEVER THE INPUT: true; the input reads as it did. -/
def placeClosedSpec : ChangeSpec := { name := "placeClosed", fn := fun _ => fun
  | [d1, d2] => { results := [.lit (.bool true)], args := [d1, d2] }
  | _ => none }
def placeClosedRow : OpenClaim := { program := "ytlemjegngnfanaa", sum := "493cab71b4f52445d751bc7e8f4779226481ab6dd78de92a1dbbae6fc51bcbf4", func := "catchment/catchmentlaw10.PlaceClosed", spec := "placeClosed", unfollowed := true, recurses := true, apart := false }
def PlaceClosedSaid : Prop := placeClosedRow.holds Try.pinned (OpenSpec.ofChange placeClosedSpec)

/-- ITS FALSE NEIGHBOUR: 'it returns false'. Refute it at one input. -/
def placeClosedWrong : ChangeSpec := { name := "placeClosed", fn := fun _ => fun
  | [d1, d2] => { results := [.lit (.bool false)], args := [d1, d2] }
  | _ => none }
def PlaceClosedWrongFalsely : Prop := placeClosedRow.holds Try.pinned (OpenSpec.ofChange placeClosedWrong)

/-- 'catchmentlaw10.PlaceCounts': WHATEVER THE INPUT: true; the input reads as it did. -/
def placeCountsSpec : ChangeSpec := { name := "placeCounts", fn := fun _ => fun
  | [d1, d2, d3] => { results := [.lit (.bool true)], args := [d1, d2, d3] }
  | _ => none }
def placeCountsRow : OpenClaim := { program := "ytlemjegngnfanaa", sum := "493cab71b4f52445d751bc7e8f4779226481ab6dd78de92a1dbbae6fc51bcbf4", func := "catchment/catchmentlaw10.PlaceCounts", spec := "placeCounts", unfollowed := true, recurses := true, apart := false }
def PlaceCountsSaid : Prop := placeCountsRow.holds Try.pinned (OpenSpec.ofChange placeCountsSpec)

/-- ITS FALSE NEIGHBOUR: 'it returns false'. Refute it at one input. -/
def placeCountsWrong : ChangeSpec := { name := "placeCounts", fn := fun _ => fun
  | [d1, d2, d3] => { results := [.lit (.bool false)], args := [d1, d2, d3] }
  | _ => none }
def PlaceCountsWrongFalsely : Prop := placeCountsRow.holds Try.pinned (OpenSpec.ofChange placeCountsWrong)

/-- 'catchmentlaw10.PlaceRoom': WHATEVER THE INPUT: true; the input reads as it did. -/
def placeRoomSpec : ChangeSpec := { name := "placeRoom", fn := fun _ => fun
  | [d1, d2] => { results := [.lit (.bool true)], args := [d1, d2] }
  | _ => none }
def placeRoomRow : OpenClaim := { program := "ytlemjegngnfanaa", sum := "493cab71b4f52445d751bc7e8f4779226481ab6dd78de92a1dbbae6fc51bcbf4", func := "catchment/catchmentlaw10.PlaceRoom", spec := "placeRoom", unfollowed := true, recurses := true, apart := false }
def PlaceRoomSaid : Prop := placeRoomRow.holds Try.pinned (OpenSpec.ofChange placeRoomSpec)

/-- ITS FALSE NEIGHBOUR: 'it returns false'. Refute it at one input. -/
def placeRoomWrong : ChangeSpec := { name := "placeRoom", fn := fun _ => fun
  | [d1, d2] => { results := [.lit (.bool false)], args := [d1, d2] }
  | _ => none }
def PlaceRoomWrongFalsely : Prop := placeRoomRow.holds Try.pinned (OpenSpec.ofChange placeRoomWrong)

/-- 'catchmentlaw10.PlaceWrong': WHATEVER THE INPUT: true; the input reads as it did. -/
def placeWrongSpec : ChangeSpec := { name := "placeWrong", fn := fun _ => fun
  | [d1, d2, d3] => { results := [.lit (.bool true)], args := [d1, d2, d3] }
  | _ => none }
def placeWrongRow : OpenClaim := { program := "ytlemjegngnfanaa", sum := "493cab71b4f52445d751bc7e8f4779226481ab6dd78de92a1dbbae6fc51bcbf4", func := "catchment/catchmentlaw10.PlaceWrong", spec := "placeWrong", unfollowed := true, recurses := true, apart := false }
def PlaceWrongSaid : Prop := placeWrongRow.holds Try.pinned (OpenSpec.ofChange placeWrongSpec)

/-- ITS FALSE NEIGHBOUR: 'it returns false'. Refute it at one input. -/
def placeWrongWrong : ChangeSpec := { name := "placeWrong", fn := fun _ => fun
  | [d1, d2, d3] => { results := [.lit (.bool false)], args := [d1, d2, d3] }
  | _ => none }
def PlaceWrongWrongFalsely : Prop := placeWrongRow.holds Try.pinned (OpenSpec.ofChange placeWrongWrong)

/- THE SECOND FORM. 'bulk': how many values and letters a reading holds, each counted each time it is reached (what is shared counts as often as it is met; a slice's spare places count too). A statement '..UptoSaid' is the law's where the arguments, and the package variables that the reading takes, are together of bulk at most 1048576: NARROWER than '..Said'. Prove '..Said' where nothing that the law and all that it calls make is longer than what came in: it says more and counts as full. Else prove '..UptoSaid'. A law counts once. -/
mutual
def uptoBulk {H : Type} : DataW H → Nat
  | .lit (.string bytes) => bytes.length + 1
  | .lit _ => 1
  | .nil => 1
  | .ptr d => uptoBulk d + 1
  | .slice elems spare => uptoBulkAll elems + uptoBulkAll spare + 1
  | .agg parts => uptoBulkAll parts + 1
  | .iface _ d => uptoBulk d + 1
  | .map entries => uptoBulkEntries entries + 1
  | .held _ => 1
def uptoBulkAll {H : Type} : List (DataW H) → Nat
  | [] => 0
  | d :: r => uptoBulk d + uptoBulkAll r
def uptoBulkEntries {H : Type} : List (Lit × DataW H) → Nat
  | [] => 0
  | x :: r => uptoBulkEntry x + uptoBulkEntries r
def uptoBulkEntry {H : Type} : Lit × DataW H → Nat
  | (.string bytes, d) => bytes.length + uptoBulk d + 1
  | (_, d) => uptoBulk d + 1
 end
def uptoSmall : (H : Type) → List (DataW H) → Bool := fun _ ds => decide (uptoBulkAll ds ≤ 1048576)
def OpenSpec.upto (s : _root_.Go.ChangeSpec) : _root_.Go.OpenSpec := { _root_.Go.OpenSpec.ofChange s with cond := some uptoSmall }

/-- 'catchmentlaw10.PlaceTells', WHERE WHAT IT READS IS OF BULK AT MOST 1048576: true; the input reads as it did. -/
def placeTellsUptoRow : OpenClaim := { program := "ytlemjegngnfanaa", sum := "493cab71b4f52445d751bc7e8f4779226481ab6dd78de92a1dbbae6fc51bcbf4", func := "catchment/catchmentlaw10.PlaceTells", spec := "placeTells", unfollowed := true, recurses := true, apart := false, narrowed := true }
def PlaceTellsUptoSaid : Prop := placeTellsUptoRow.holds Try.pinned (OpenSpec.upto placeTellsSpec)

/-- 'catchmentlaw10.PlaceClosed', WHERE WHAT IT READS IS OF BULK AT MOST 1048576: true; the input reads as it did. -/
def placeClosedUptoRow : OpenClaim := { program := "ytlemjegngnfanaa", sum := "493cab71b4f52445d751bc7e8f4779226481ab6dd78de92a1dbbae6fc51bcbf4", func := "catchment/catchmentlaw10.PlaceClosed", spec := "placeClosed", unfollowed := true, recurses := true, apart := false, narrowed := true }
def PlaceClosedUptoSaid : Prop := placeClosedUptoRow.holds Try.pinned (OpenSpec.upto placeClosedSpec)

/-- 'catchmentlaw10.PlaceCounts', WHERE WHAT IT READS IS OF BULK AT MOST 1048576: true; the input reads as it did. -/
def placeCountsUptoRow : OpenClaim := { program := "ytlemjegngnfanaa", sum := "493cab71b4f52445d751bc7e8f4779226481ab6dd78de92a1dbbae6fc51bcbf4", func := "catchment/catchmentlaw10.PlaceCounts", spec := "placeCounts", unfollowed := true, recurses := true, apart := false, narrowed := true }
def PlaceCountsUptoSaid : Prop := placeCountsUptoRow.holds Try.pinned (OpenSpec.upto placeCountsSpec)

/-- 'catchmentlaw10.PlaceRoom', WHERE WHAT IT READS IS OF BULK AT MOST 1048576: true; the input reads as it did. -/
def placeRoomUptoRow : OpenClaim := { program := "ytlemjegngnfanaa", sum := "493cab71b4f52445d751bc7e8f4779226481ab6dd78de92a1dbbae6fc51bcbf4", func := "catchment/catchmentlaw10.PlaceRoom", spec := "placeRoom", unfollowed := true, recurses := true, apart := false, narrowed := true }
def PlaceRoomUptoSaid : Prop := placeRoomUptoRow.holds Try.pinned (OpenSpec.upto placeRoomSpec)

/-- 'catchmentlaw10.PlaceWrong', WHERE WHAT IT READS IS OF BULK AT MOST 1048576: true; the input reads as it did. -/
def placeWrongUptoRow : OpenClaim := { program := "ytlemjegngnfanaa", sum := "493cab71b4f52445d751bc7e8f4779226481ab6dd78de92a1dbbae6fc51bcbf4", func := "catchment/catchmentlaw10.PlaceWrong", spec := "placeWrong", unfollowed := true, recurses := true, apart := false, narrowed := true }
def PlaceWrongUptoSaid : Prop := placeWrongUptoRow.holds Try.pinned (OpenSpec.upto placeWrongSpec)

end Rows
end Go.Proofs.Ytlemjegngnfanaa
