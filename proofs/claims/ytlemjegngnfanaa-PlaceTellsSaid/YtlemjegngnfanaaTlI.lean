/- Two lists that are the same. -/
import Derived.Test.YtlemjegngnfanaaTlH
namespace Go.Proofs.Ytlemjegngnfanaa.Tl
open Go.RowKit Go.Proofs.Ytlemjegngnfanaa.Oct Go.Proofs.Ytlemjegngnfanaa.Mv Go.Maps
set_option linter.unusedVariables false

theorem List64.still {w w' : World} {v : Value} {l : List Nat} (h : List64 w v l) (k : Below w.heap.size w w') : List64 w' v l := by
  obtain ⟨A, cap, e, h2⟩ := h
  exact ⟨A, cap, e, h2.below k⟩
theorem ints_at (l : List Nat) (i : Nat) (h : i < l.length) : (ints l)[i]? = some (.int .i64 (l[i] : Int)) := by simp [ints, h]
end Go.Proofs.Ytlemjegngnfanaa.Tl

