/-
  No cell of these rows narrows 'for every input' (looked for: loops, veiled, ifaces, maps, wideKeys, modest, calm, conditions, laid).
  DERIVED. THE GIVEN ROWS OF THIS SEAT. 6 by the template 'for every input the law returns true; each argument reads behind the call as it read before'; 0 by the template 'total and deterministic' (their statements: YtigmgaedpdeleaaTotals.lean).
  GIVEN WITH THE SEED: the statements are not yours to turn. If you find one false, say at which input.
  Laid BY PROGRAM, IN A SANDBOX (cutbox-rows.mjs): the forced cells as the released guide's own fill.sh prints them over the translation 3206b89ac80d1ee8… (all of the seat's roots in one cut). By AI agents, Wed Nov 11 2026. No macro, syntax, notation, axiom, sorry.
-/
import Derived.Test.YtigmgaedpdeleaaChecked
import GoSem.Claim
import GoSem.ClaimJoined
import GoSem.ClaimMapViews
import Derived.JoinedTies
import Derived.KernelRfl
namespace Go.Proofs.Ytigmgaedpdeleaa
/- THE CELL 'sum', in the pinned program and in every row, IS THE sha256 OF THE DUMP (.gsa) THAT YtigmgaedpdeleaaProg.lean LOADS. Nothing in Lean hashes anything: it is a label: what it is worth is what the hold of that sum in a sandbox is worth. -/
noncomputable def Try.pinned : Pinned := { name := "ytigmgaedpdeleaa", sum := "3206b89ac80d1ee88a93868bc6f91b86cfb1509a2fde3a0690644ec54f706b02", checked := Try.checked }
namespace Rows
def none {H : Type} : Left H := { results := [], args := [] }

/-- 'catchmentlaw08.TallyOf': WHATEVER THE INPUT: true; the input reads as it did. -/
def tallyOfSpec : ChangeSpec := { name := "tallyOf", fn := fun _ => fun
  | [d1, d2] => { results := [.lit (.bool true)], args := [d1, d2] }
  | _ => none }
def tallyOfRow : OpenClaim := { program := "ytigmgaedpdeleaa", sum := "3206b89ac80d1ee88a93868bc6f91b86cfb1509a2fde3a0690644ec54f706b02", func := "catchment/catchmentlaw08.TallyOf", spec := "tallyOf", unfollowed := true, recurses := true, apart := false }
def TallyOfSaid : Prop := tallyOfRow.holds Try.pinned (OpenSpec.ofChange tallyOfSpec)

/-- ITS FALSE NEIGHBOUR: 'it returns false'. Refute it at one input. -/
def tallyOfWrong : ChangeSpec := { name := "tallyOf", fn := fun _ => fun
  | [d1, d2] => { results := [.lit (.bool false)], args := [d1, d2] }
  | _ => none }
def TallyOfWrongFalsely : Prop := tallyOfRow.holds Try.pinned (OpenSpec.ofChange tallyOfWrong)

/-- 'catchmentlaw08.TallyTells': WHATEVER THE INPUT: true; the input reads as it did. -/
def tallyTellsSpec : ChangeSpec := { name := "tallyTells", fn := fun _ => fun
  | [d1, d2] => { results := [.lit (.bool true)], args := [d1, d2] }
  | _ => none }
def tallyTellsRow : OpenClaim := { program := "ytigmgaedpdeleaa", sum := "3206b89ac80d1ee88a93868bc6f91b86cfb1509a2fde3a0690644ec54f706b02", func := "catchment/catchmentlaw08.TallyTells", spec := "tallyTells", unfollowed := true, recurses := true, apart := false }
def TallyTellsSaid : Prop := tallyTellsRow.holds Try.pinned (OpenSpec.ofChange tallyTellsSpec)

/-- ITS FALSE NEIGHBOUR: 'it returns false'. Refute it at one input. -/
def tallyTellsWrong : ChangeSpec := { name := "tallyTells", fn := fun _ => fun
  | [d1, d2] => { results := [.lit (.bool false)], args := [d1, d2] }
  | _ => none }
def TallyTellsWrongFalsely : Prop := tallyTellsRow.holds Try.pinned (OpenSpec.ofChange tallyTellsWrong)

/-- 'catchmentlaw08.TallyFree': WHATEVER THE INPUT: true; the input reads as it did. -/
def tallyFreeSpec : ChangeSpec := { name := "tallyFree", fn := fun _ => fun
  | [d1, d2] => { results := [.lit (.bool true)], args := [d1, d2] }
  | _ => none }
def tallyFreeRow : OpenClaim := { program := "ytigmgaedpdeleaa", sum := "3206b89ac80d1ee88a93868bc6f91b86cfb1509a2fde3a0690644ec54f706b02", func := "catchment/catchmentlaw08.TallyFree", spec := "tallyFree", unfollowed := true, recurses := true, apart := false }
def TallyFreeSaid : Prop := tallyFreeRow.holds Try.pinned (OpenSpec.ofChange tallyFreeSpec)

/-- ITS FALSE NEIGHBOUR: 'it returns false'. Refute it at one input. -/
def tallyFreeWrong : ChangeSpec := { name := "tallyFree", fn := fun _ => fun
  | [d1, d2] => { results := [.lit (.bool false)], args := [d1, d2] }
  | _ => none }
def TallyFreeWrongFalsely : Prop := tallyFreeRow.holds Try.pinned (OpenSpec.ofChange tallyFreeWrong)

/-- 'catchmentlaw08.TallyBack': WHATEVER THE INPUT: true; the input reads as it did. -/
def tallyBackSpec : ChangeSpec := { name := "tallyBack", fn := fun _ => fun
  | [d1, d2, d3] => { results := [.lit (.bool true)], args := [d1, d2, d3] }
  | _ => none }
def tallyBackRow : OpenClaim := { program := "ytigmgaedpdeleaa", sum := "3206b89ac80d1ee88a93868bc6f91b86cfb1509a2fde3a0690644ec54f706b02", func := "catchment/catchmentlaw08.TallyBack", spec := "tallyBack", unfollowed := true, recurses := true, apart := false }
def TallyBackSaid : Prop := tallyBackRow.holds Try.pinned (OpenSpec.ofChange tallyBackSpec)

/-- ITS FALSE NEIGHBOUR: 'it returns false'. Refute it at one input. -/
def tallyBackWrong : ChangeSpec := { name := "tallyBack", fn := fun _ => fun
  | [d1, d2, d3] => { results := [.lit (.bool false)], args := [d1, d2, d3] }
  | _ => none }
def TallyBackWrongFalsely : Prop := tallyBackRow.holds Try.pinned (OpenSpec.ofChange tallyBackWrong)

/-- 'catchmentlaw08.TallyMost': WHATEVER THE INPUT: true; the input reads as it did. -/
def tallyMostSpec : ChangeSpec := { name := "tallyMost", fn := fun _ => fun
  | [d1, d2] => { results := [.lit (.bool true)], args := [d1, d2] }
  | _ => none }
def tallyMostRow : OpenClaim := { program := "ytigmgaedpdeleaa", sum := "3206b89ac80d1ee88a93868bc6f91b86cfb1509a2fde3a0690644ec54f706b02", func := "catchment/catchmentlaw08.TallyMost", spec := "tallyMost", unfollowed := true, recurses := true, apart := false }
def TallyMostSaid : Prop := tallyMostRow.holds Try.pinned (OpenSpec.ofChange tallyMostSpec)

/-- ITS FALSE NEIGHBOUR: 'it returns false'. Refute it at one input. -/
def tallyMostWrong : ChangeSpec := { name := "tallyMost", fn := fun _ => fun
  | [d1, d2] => { results := [.lit (.bool false)], args := [d1, d2] }
  | _ => none }
def TallyMostWrongFalsely : Prop := tallyMostRow.holds Try.pinned (OpenSpec.ofChange tallyMostWrong)

/-- 'catchmentlaw08.TallyNone': WHATEVER THE INPUT: true; the input reads as it did. -/
def tallyNoneSpec : ChangeSpec := { name := "tallyNone", fn := fun _ => fun
  | [d] => { results := [.lit (.bool true)], args := [d] }
  | _ => none }
def tallyNoneRow : OpenClaim := { program := "ytigmgaedpdeleaa", sum := "3206b89ac80d1ee88a93868bc6f91b86cfb1509a2fde3a0690644ec54f706b02", func := "catchment/catchmentlaw08.TallyNone", spec := "tallyNone", unfollowed := true, recurses := true, apart := false }
def TallyNoneSaid : Prop := tallyNoneRow.holds Try.pinned (OpenSpec.ofChange tallyNoneSpec)

/-- ITS FALSE NEIGHBOUR: 'it returns false'. Refute it at one input. -/
def tallyNoneWrong : ChangeSpec := { name := "tallyNone", fn := fun _ => fun
  | [d] => { results := [.lit (.bool false)], args := [d] }
  | _ => none }
def TallyNoneWrongFalsely : Prop := tallyNoneRow.holds Try.pinned (OpenSpec.ofChange tallyNoneWrong)

/- THE SECOND FORM. 'bulk': how many values and letters a reading holds, each counted each time it is reached (what is shared counts as often as it is met; a slice's spare places count too). A statement '..UptoSaid' is the law's where the arguments, and the package variables that the reading takes, are together of bulk at most 1048576: NARROWER than '..Said'. Prove '..Said' where nothing that the law and all that it calls make is longer than what came in: it says more and counts as full. Else prove '..UptoSaid'. A law counts once. -/
mutual
def uptoBulk {H : Type} : DataW H → Nat
  | .lit (.string bytes) => bytes.length + 1
  | .lit _ => 1
  | .nil => 1
  | .ptr d => uptoBulk d + 1
  | .slice elems spare => uptoBulkAll elems + uptoBulkAll spare + 1
  | .agg parts => uptoBulkAll parts + 1
  | .iface _ d => uptoBulk d + 1
  | .map entries => uptoBulkEntries entries + 1
  | .held _ => 1
def uptoBulkAll {H : Type} : List (DataW H) → Nat
  | [] => 0
  | d :: r => uptoBulk d + uptoBulkAll r
def uptoBulkEntries {H : Type} : List (Lit × DataW H) → Nat
  | [] => 0
  | x :: r => uptoBulkEntry x + uptoBulkEntries r
def uptoBulkEntry {H : Type} : Lit × DataW H → Nat
  | (.string bytes, d) => bytes.length + uptoBulk d + 1
  | (_, d) => uptoBulk d + 1
 end
def uptoSmall : (H : Type) → List (DataW H) → Bool := fun _ ds => decide (uptoBulkAll ds ≤ 1048576)
def OpenSpec.upto (s : _root_.Go.ChangeSpec) : _root_.Go.OpenSpec := { _root_.Go.OpenSpec.ofChange s with cond := some uptoSmall }

/-- 'catchmentlaw08.TallyOf', WHERE WHAT IT READS IS OF BULK AT MOST 1048576: true; the input reads as it did. -/
def tallyOfUptoRow : OpenClaim := { program := "ytigmgaedpdeleaa", sum := "3206b89ac80d1ee88a93868bc6f91b86cfb1509a2fde3a0690644ec54f706b02", func := "catchment/catchmentlaw08.TallyOf", spec := "tallyOf", unfollowed := true, recurses := true, apart := false, narrowed := true }
def TallyOfUptoSaid : Prop := tallyOfUptoRow.holds Try.pinned (OpenSpec.upto tallyOfSpec)

/-- 'catchmentlaw08.TallyTells', WHERE WHAT IT READS IS OF BULK AT MOST 1048576: true; the input reads as it did. -/
def tallyTellsUptoRow : OpenClaim := { program := "ytigmgaedpdeleaa", sum := "3206b89ac80d1ee88a93868bc6f91b86cfb1509a2fde3a0690644ec54f706b02", func := "catchment/catchmentlaw08.TallyTells", spec := "tallyTells", unfollowed := true, recurses := true, apart := false, narrowed := true }
def TallyTellsUptoSaid : Prop := tallyTellsUptoRow.holds Try.pinned (OpenSpec.upto tallyTellsSpec)

/-- 'catchmentlaw08.TallyFree', WHERE WHAT IT READS IS OF BULK AT MOST 1048576: true; the input reads as it did. -/
def tallyFreeUptoRow : OpenClaim := { program := "ytigmgaedpdeleaa", sum := "3206b89ac80d1ee88a93868bc6f91b86cfb1509a2fde3a0690644ec54f706b02", func := "catchment/catchmentlaw08.TallyFree", spec := "tallyFree", unfollowed := true, recurses := true, apart := false, narrowed := true }
def TallyFreeUptoSaid : Prop := tallyFreeUptoRow.holds Try.pinned (OpenSpec.upto tallyFreeSpec)

/-- 'catchmentlaw08.TallyBack', WHERE WHAT IT READS IS OF BULK AT MOST 1048576: true; the input reads as it did. -/
def tallyBackUptoRow : OpenClaim := { program := "ytigmgaedpdeleaa", sum := "3206b89ac80d1ee88a93868bc6f91b86cfb1509a2fde3a0690644ec54f706b02", func := "catchment/catchmentlaw08.TallyBack", spec := "tallyBack", unfollowed := true, recurses := true, apart := false, narrowed := true }
def TallyBackUptoSaid : Prop := tallyBackUptoRow.holds Try.pinned (OpenSpec.upto tallyBackSpec)

/-- 'catchmentlaw08.TallyMost', WHERE WHAT IT READS IS OF BULK AT MOST 1048576: true; the input reads as it did. -/
def tallyMostUptoRow : OpenClaim := { program := "ytigmgaedpdeleaa", sum := "3206b89ac80d1ee88a93868bc6f91b86cfb1509a2fde3a0690644ec54f706b02", func := "catchment/catchmentlaw08.TallyMost", spec := "tallyMost", unfollowed := true, recurses := true, apart := false, narrowed := true }
def TallyMostUptoSaid : Prop := tallyMostUptoRow.holds Try.pinned (OpenSpec.upto tallyMostSpec)

/-- 'catchmentlaw08.TallyNone', WHERE WHAT IT READS IS OF BULK AT MOST 1048576: true; the input reads as it did. -/
def tallyNoneUptoRow : OpenClaim := { program := "ytigmgaedpdeleaa", sum := "3206b89ac80d1ee88a93868bc6f91b86cfb1509a2fde3a0690644ec54f706b02", func := "catchment/catchmentlaw08.TallyNone", spec := "tallyNone", unfollowed := true, recurses := true, apart := false, narrowed := true }
def TallyNoneUptoSaid : Prop := tallyNoneUptoRow.holds Try.pinned (OpenSpec.upto tallyNoneSpec)

end Rows
end Go.Proofs.Ytigmgaedpdeleaa
