/- The law's own example. -/
import Derived.Test.YtlemjegngnfanaaTlI
namespace Go.Proofs.Ytlemjegngnfanaa.Tl
open Go.RowKit Go.Proofs.Ytlemjegngnfanaa.Oct Go.Proofs.Ytlemjegngnfanaa.Mv Go.Maps
set_option linter.unusedVariables false

theorem up_eq {w : World} {a cb mb c : Nat} {s s' : St} (h : At w a cb mb c s) (b r : Int) (hr : s.up b = (r, s')) :
    Calls Try.prog 17 #[.pointer (some ⟨a, 0, none⟩), .int .i64 b] w fun e w' => e = .returned (.int .i64 r) ∧ At w' a cb mb c s' ∧ But w w' cb mb := by
  have := up_at h b
  rw [hr] at this
  exact this
theorem down_eq {w : World} {a cb mb c : Nat} {s s' : St} (h : At w a cb mb c s) (b r : Int) (hr : s.down b = (r, s')) :
    Calls Try.prog 19 #[.pointer (some ⟨a, 0, none⟩), .int .i64 b] w fun e w' => e = .returned (.int .i64 r) ∧ At w' a cb mb c s' ∧ But w w' cb mb := by
  have := down_at h b
  rw [hr] at this
  exact this
theorem get_eq {w : World} {a cb mb c : Nat} {s : St} (h : At w a cb mb c s) (i : Nat) (hi : i < s.n) (n : Int) (hr : ((s.cnt i).toNat : Int) = n) :
    Calls Try.prog 26 #[.pointer (some ⟨a, 0, none⟩), .int .i64 (i : Int)] w fun e w' => e = .returned (.int .i64 n) ∧ w = w' := by
  subst hr
  exact get_yes h i hi
theorem free_eq {w : World} {a cb mb c : Nat} {s : St} (h : At w a cb mb c s) (i : Nat) (hi : i < s.n) (r : Bool) (hr : s.free i = r) :
    Calls Try.prog 54 #[.pointer (some ⟨a, 0, none⟩), .int .i64 (i : Int)] w fun e w' => e = .returned (.bool r) ∧ w = w' := by
  subst hr
  exact free_yes h i hi
theorem list_eq {w : World} {a cb mb c : Nat} {s : St} (h : At w a cb mb c s) (l : List Nat) (hr : s.changed = l) :
    Calls Try.prog 30 #[.pointer (some ⟨a, 0, none⟩)] w fun e w' => ∃ v, e = .returned v ∧ List64 w' v l ∧ Below w.heap.size w w' := by
  subst hr
  exact list_at h
end Go.Proofs.Ytlemjegngnfanaa.Tl

