/- Which blocks have changed. -/
import Derived.Test.YtkjdagjhbjpcnaaTlG
namespace Go.Proofs.Ytkjdagjhbjpcnaa.Tl
open Go.RowKit Go.Proofs.Ytkjdagjhbjpcnaa.Oct Go.Proofs.Ytkjdagjhbjpcnaa.Mv Go.Maps
set_option linter.unusedVariables false

/-- Numbers as values. -/
def ints (l : List Nat) : List Value := l.map fun i : Nat => .int .i64 (i : Int)
theorem length_ints (l : List Nat) : (ints l).length = l.length := by simp [ints]
/-- A slice of these numbers. -/
def List64 (w : World) (v : Value) (l : List Nat) : Prop := ∃ A cap, v = .slice A l.length cap ∧ ToldV w A (ints l)
theorem sorted_changed (s : St) {ss : List Int} (h : ss.Perm (s.changed.map fun i : Nat => (i : Int))) : ss.mergeSort (fun x y => decide (x ≤ y)) = s.changed.map fun i : Nat => (i : Int) := by
  have h2 := mergeSort_of_perm_i h
  have h3 : (s.changed.map fun i : Nat => (i : Int)).mergeSort leI = s.changed.map fun i : Nat => (i : Int) := by
    refine List.mergeSort_of_pairwise (List.pairwise_map.2 (List.Pairwise.imp (fun {a b} (h : a < b) => ?_) (List.pairwise_lt_range.filter _)))
    simp [leI]
    omega
  exact h2.trans h3
end Go.Proofs.Ytkjdagjhbjpcnaa.Tl

