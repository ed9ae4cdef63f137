/- The reference's tally: Count. (Written by bin/gen_tlcount.py.) -/
import Derived.Test.YtlemjegngnfanaaTlS
namespace Go.Proofs.Ytlemjegngnfanaa.Tl
open Go.RowKit Go.Proofs.Ytlemjegngnfanaa.Oct Go.Proofs.Ytlemjegngnfanaa.Mv Go.Maps
set_option linter.unusedVariables false

/-- The first k blocks that have changed. -/
def St.chg (s : St) (k : Nat) : List Nat := (List.range k).filter s.moved
def toI (l : List Nat) : List Int := l.map fun i : Nat => (i : Int)
theorem chg_yes {s : St} {k : Nat} (h : s.moved k = true) : s.chg (k + 1) = s.chg k ++ [k] := by simp [St.chg, List.range_succ, List.filter_append, h]
theorem chg_no {s : St} {k : Nat} (h : s.moved k = false) : s.chg (k + 1) = s.chg k := by simp [St.chg, List.range_succ, List.filter_append, h]
theorem chg_le (s : St) (k : Nat) : (s.chg k).length ≤ k := by
  have := List.length_filter_le s.moved (List.range k)
  rwa [List.length_range] at this
theorem OwnI.list {w : World} {base : Nat} {v : Value} {l : List Nat} (h : OwnI w base v (toI l)) : List64 w v l := by
  have hl : (toI l).length = l.length := by simp [toI]
  rcases h.2 with ⟨rfl, e⟩ | ⟨g, cap, cur, rfl, hb, hgg, rest⟩
  · rw [hl] at e
    exact ⟨none, 0, by rw [e], .inl (by simp [ints, List.eq_nil_of_length_eq_zero e])⟩
  · refine ⟨_, cap, by rw [hl], .inr ⟨g, 0, rfl, fun i hi => ?_⟩⟩
    rw [length_ints] at hi
    rw [Nat.zero_add, World.ownsRow.cellAt h i (by rw [hl]; omega)]
    simp [toI, ints, hi]
end Go.Proofs.Ytlemjegngnfanaa.Tl

