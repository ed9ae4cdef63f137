/-
  No cell of these rows narrows 'for every input' (looked for: loops, veiled, ifaces, maps, wideKeys, modest, calm, conditions, laid).
  DERIVED. THE GIVEN ROWS OF THIS SEAT. 6 by the template 'for every input the law returns true; each argument reads behind the call as it read before'; 0 by the template 'total and deterministic' (their statements: YtelaconfjofciaaTotals.lean).
  GIVEN WITH THE SEED: the statements are not yours to turn. If you find one false, say at which input.
  Laid BY PROGRAM, IN A SANDBOX (cutbox-rows.mjs): the forced cells as the released guide's own fill.sh prints them over the translation 95e800252f9ecebe… (all of the seat's roots in one cut). By AI agents, Wed Nov 11 2026. No macro, syntax, notation, axiom, sorry.
-/
import Derived.Test.YtelaconfjofciaaChecked
import GoSem.Claim
import GoSem.ClaimJoined
import GoSem.ClaimMapViews
import Derived.JoinedTies
import Derived.KernelRfl
namespace Go.Proofs.Ytelaconfjofciaa
/- THE CELL 'sum', in the pinned program and in every row, IS THE sha256 OF THE DUMP (.gsa) THAT YtelaconfjofciaaProg.lean LOADS. Nothing in Lean hashes anything: it is a label: what it is worth is what the hold of that sum in a sandbox is worth. -/
noncomputable def Try.pinned : Pinned := { name := "ytelaconfjofciaa", sum := "95e800252f9ecebe8d3eb98799c1af35af909591d456bc767f77ceaf8cd2fac5", checked := Try.checked }
namespace Rows
def none {H : Type} : Left H := { results := [], args := [] }

/-- 'catchmentlaw03.LeafTells': WHATEVER THE INPUT: true; the input reads as it did. -/
def leafTellsSpec : ChangeSpec := { name := "leafTells", fn := fun _ => fun
  | [d1, d2] => { results := [.lit (.bool true)], args := [d1, d2] }
  | _ => none }
def leafTellsRow : OpenClaim := { program := "ytelaconfjofciaa", sum := "95e800252f9ecebe8d3eb98799c1af35af909591d456bc767f77ceaf8cd2fac5", func := "catchment/catchmentlaw03.LeafTells", spec := "leafTells", unfollowed := true, recurses := true, apart := false }
def LeafTellsSaid : Prop := leafTellsRow.holds Try.pinned (OpenSpec.ofChange leafTellsSpec)

/-- ITS FALSE NEIGHBOUR: 'it returns false'. Refute it at one input. -/
def leafTellsWrong : ChangeSpec := { name := "leafTells", fn := fun _ => fun
  | [d1, d2] => { results := [.lit (.bool false)], args := [d1, d2] }
  | _ => none }
def LeafTellsWrongFalsely : Prop := leafTellsRow.holds Try.pinned (OpenSpec.ofChange leafTellsWrong)

/-- 'catchmentlaw03.LeafBack': WHATEVER THE INPUT: true; the input reads as it did. -/
def leafBackSpec : ChangeSpec := { name := "leafBack", fn := fun _ => fun
  | [d1, d2] => { results := [.lit (.bool true)], args := [d1, d2] }
  | _ => none }
def leafBackRow : OpenClaim := { program := "ytelaconfjofciaa", sum := "95e800252f9ecebe8d3eb98799c1af35af909591d456bc767f77ceaf8cd2fac5", func := "catchment/catchmentlaw03.LeafBack", spec := "leafBack", unfollowed := true, recurses := true, apart := false }
def LeafBackSaid : Prop := leafBackRow.holds Try.pinned (OpenSpec.ofChange leafBackSpec)

/-- ITS FALSE NEIGHBOUR: 'it returns false'. Refute it at one input. -/
def leafBackWrong : ChangeSpec := { name := "leafBack", fn := fun _ => fun
  | [d1, d2] => { results := [.lit (.bool false)], args := [d1, d2] }
  | _ => none }
def LeafBackWrongFalsely : Prop := leafBackRow.holds Try.pinned (OpenSpec.ofChange leafBackWrong)

/-- 'catchmentlaw03.LeafPages': WHATEVER THE INPUT: true; the input reads as it did. -/
def leafPagesSpec : ChangeSpec := { name := "leafPages", fn := fun _ => fun
  | [d1, d2] => { results := [.lit (.bool true)], args := [d1, d2] }
  | _ => none }
def leafPagesRow : OpenClaim := { program := "ytelaconfjofciaa", sum := "95e800252f9ecebe8d3eb98799c1af35af909591d456bc767f77ceaf8cd2fac5", func := "catchment/catchmentlaw03.LeafPages", spec := "leafPages", unfollowed := true, recurses := true, apart := false }
def LeafPagesSaid : Prop := leafPagesRow.holds Try.pinned (OpenSpec.ofChange leafPagesSpec)

/-- ITS FALSE NEIGHBOUR: 'it returns false'. Refute it at one input. -/
def leafPagesWrong : ChangeSpec := { name := "leafPages", fn := fun _ => fun
  | [d1, d2] => { results := [.lit (.bool false)], args := [d1, d2] }
  | _ => none }
def LeafPagesWrongFalsely : Prop := leafPagesRow.holds Try.pinned (OpenSpec.ofChange leafPagesWrong)

/-- 'catchmentlaw03.LeafKinds': WHATEVER THE INPUT: true; the input reads as it did. -/
def leafKindsSpec : ChangeSpec := { name := "leafKinds", fn := fun _ => fun
  | [d] => { results := [.lit (.bool true)], args := [d] }
  | _ => none }
def leafKindsRow : OpenClaim := { program := "ytelaconfjofciaa", sum := "95e800252f9ecebe8d3eb98799c1af35af909591d456bc767f77ceaf8cd2fac5", func := "catchment/catchmentlaw03.LeafKinds", spec := "leafKinds", unfollowed := true, recurses := true, apart := false }
def LeafKindsSaid : Prop := leafKindsRow.holds Try.pinned (OpenSpec.ofChange leafKindsSpec)

/-- ITS FALSE NEIGHBOUR: 'it returns false'. Refute it at one input. -/
def leafKindsWrong : ChangeSpec := { name := "leafKinds", fn := fun _ => fun
  | [d] => { results := [.lit (.bool false)], args := [d] }
  | _ => none }
def LeafKindsWrongFalsely : Prop := leafKindsRow.holds Try.pinned (OpenSpec.ofChange leafKindsWrong)

/-- 'catchmentlaw03.LeafOrder': WHATEVER THE INPUT: true; the input reads as it did. -/
def leafOrderSpec : ChangeSpec := { name := "leafOrder", fn := fun _ => fun
  | [d1, d2, d3] => { results := [.lit (.bool true)], args := [d1, d2, d3] }
  | _ => none }
def leafOrderRow : OpenClaim := { program := "ytelaconfjofciaa", sum := "95e800252f9ecebe8d3eb98799c1af35af909591d456bc767f77ceaf8cd2fac5", func := "catchment/catchmentlaw03.LeafOrder", spec := "leafOrder", unfollowed := true, recurses := true, apart := false }
def LeafOrderSaid : Prop := leafOrderRow.holds Try.pinned (OpenSpec.ofChange leafOrderSpec)

/-- ITS FALSE NEIGHBOUR: 'it returns false'. Refute it at one input. -/
def leafOrderWrong : ChangeSpec := { name := "leafOrder", fn := fun _ => fun
  | [d1, d2, d3] => { results := [.lit (.bool false)], args := [d1, d2, d3] }
  | _ => none }
def LeafOrderWrongFalsely : Prop := leafOrderRow.holds Try.pinned (OpenSpec.ofChange leafOrderWrong)

/-- 'catchmentlaw03.LeafOwn': WHATEVER THE INPUT: true; the input reads as it did. -/
def leafOwnSpec : ChangeSpec := { name := "leafOwn", fn := fun _ => fun
  | [d] => { results := [.lit (.bool true)], args := [d] }
  | _ => none }
def leafOwnRow : OpenClaim := { program := "ytelaconfjofciaa", sum := "95e800252f9ecebe8d3eb98799c1af35af909591d456bc767f77ceaf8cd2fac5", func := "catchment/catchmentlaw03.LeafOwn", spec := "leafOwn", unfollowed := true, recurses := true, apart := false }
def LeafOwnSaid : Prop := leafOwnRow.holds Try.pinned (OpenSpec.ofChange leafOwnSpec)

/-- ITS FALSE NEIGHBOUR: 'it returns false'. Refute it at one input. -/
def leafOwnWrong : ChangeSpec := { name := "leafOwn", fn := fun _ => fun
  | [d] => { results := [.lit (.bool false)], args := [d] }
  | _ => none }
def LeafOwnWrongFalsely : Prop := leafOwnRow.holds Try.pinned (OpenSpec.ofChange leafOwnWrong)

/- THE SECOND FORM. 'bulk': how many values and letters a reading holds, each counted each time it is reached (what is shared counts as often as it is met; a slice's spare places count too). A statement '..UptoSaid' is the law's where the arguments, and the package variables that the reading takes, are together of bulk at most 1048576: NARROWER than '..Said'. Prove '..Said' where nothing that the law and all that it calls make is longer than what came in: it says more and counts as full. Else prove '..UptoSaid'. A law counts once. -/
mutual
def uptoBulk {H : Type} : DataW H → Nat
  | .lit (.string bytes) => bytes.length + 1
  | .lit _ => 1
  | .nil => 1
  | .ptr d => uptoBulk d + 1
  | .slice elems spare => uptoBulkAll elems + uptoBulkAll spare + 1
  | .agg parts => uptoBulkAll parts + 1
  | .iface _ d => uptoBulk d + 1
  | .map entries => uptoBulkEntries entries + 1
  | .held _ => 1
def uptoBulkAll {H : Type} : List (DataW H) → Nat
  | [] => 0
  | d :: r => uptoBulk d + uptoBulkAll r
def uptoBulkEntries {H : Type} : List (Lit × DataW H) → Nat
  | [] => 0
  | x :: r => uptoBulkEntry x + uptoBulkEntries r
def uptoBulkEntry {H : Type} : Lit × DataW H → Nat
  | (.string bytes, d) => bytes.length + uptoBulk d + 1
  | (_, d) => uptoBulk d + 1
 end
def uptoSmall : (H : Type) → List (DataW H) → Bool := fun _ ds => decide (uptoBulkAll ds ≤ 1048576)
def OpenSpec.upto (s : _root_.Go.ChangeSpec) : _root_.Go.OpenSpec := { _root_.Go.OpenSpec.ofChange s with cond := some uptoSmall }

/-- 'catchmentlaw03.LeafTells', WHERE WHAT IT READS IS OF BULK AT MOST 1048576: true; the input reads as it did. -/
def leafTellsUptoRow : OpenClaim := { program := "ytelaconfjofciaa", sum := "95e800252f9ecebe8d3eb98799c1af35af909591d456bc767f77ceaf8cd2fac5", func := "catchment/catchmentlaw03.LeafTells", spec := "leafTells", unfollowed := true, recurses := true, apart := false, narrowed := true }
def LeafTellsUptoSaid : Prop := leafTellsUptoRow.holds Try.pinned (OpenSpec.upto leafTellsSpec)

/-- 'catchmentlaw03.LeafBack', WHERE WHAT IT READS IS OF BULK AT MOST 1048576: true; the input reads as it did. -/
def leafBackUptoRow : OpenClaim := { program := "ytelaconfjofciaa", sum := "95e800252f9ecebe8d3eb98799c1af35af909591d456bc767f77ceaf8cd2fac5", func := "catchment/catchmentlaw03.LeafBack", spec := "leafBack", unfollowed := true, recurses := true, apart := false, narrowed := true }
def LeafBackUptoSaid : Prop := leafBackUptoRow.holds Try.pinned (OpenSpec.upto leafBackSpec)

/-- 'catchmentlaw03.LeafPages', WHERE WHAT IT READS IS OF BULK AT MOST 1048576: true; the input reads as it did. -/
def leafPagesUptoRow : OpenClaim := { program := "ytelaconfjofciaa", sum := "95e800252f9ecebe8d3eb98799c1af35af909591d456bc767f77ceaf8cd2fac5", func := "catchment/catchmentlaw03.LeafPages", spec := "leafPages", unfollowed := true, recurses := true, apart := false, narrowed := true }
def LeafPagesUptoSaid : Prop := leafPagesUptoRow.holds Try.pinned (OpenSpec.upto leafPagesSpec)

/-- 'catchmentlaw03.LeafKinds', WHERE WHAT IT READS IS OF BULK AT MOST 1048576: true; the input reads as it did. -/
def leafKindsUptoRow : OpenClaim := { program := "ytelaconfjofciaa", sum := "95e800252f9ecebe8d3eb98799c1af35af909591d456bc767f77ceaf8cd2fac5", func := "catchment/catchmentlaw03.LeafKinds", spec := "leafKinds", unfollowed := true, recurses := true, apart := false, narrowed := true }
def LeafKindsUptoSaid : Prop := leafKindsUptoRow.holds Try.pinned (OpenSpec.upto leafKindsSpec)

/-- 'catchmentlaw03.LeafOrder', WHERE WHAT IT READS IS OF BULK AT MOST 1048576: true; the input reads as it did. -/
def leafOrderUptoRow : OpenClaim := { program := "ytelaconfjofciaa", sum := "95e800252f9ecebe8d3eb98799c1af35af909591d456bc767f77ceaf8cd2fac5", func := "catchment/catchmentlaw03.LeafOrder", spec := "leafOrder", unfollowed := true, recurses := true, apart := false, narrowed := true }
def LeafOrderUptoSaid : Prop := leafOrderUptoRow.holds Try.pinned (OpenSpec.upto leafOrderSpec)

/-- 'catchmentlaw03.LeafOwn', WHERE WHAT IT READS IS OF BULK AT MOST 1048576: true; the input reads as it did. -/
def leafOwnUptoRow : OpenClaim := { program := "ytelaconfjofciaa", sum := "95e800252f9ecebe8d3eb98799c1af35af909591d456bc767f77ceaf8cd2fac5", func := "catchment/catchmentlaw03.LeafOwn", spec := "leafOwn", unfollowed := true, recurses := true, apart := false, narrowed := true }
def LeafOwnUptoSaid : Prop := leafOwnUptoRow.holds Try.pinned (OpenSpec.upto leafOwnSpec)

end Rows
end Go.Proofs.Ytelaconfjofciaa
