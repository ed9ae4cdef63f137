/- The law's own example. -/
import Derived.Test.YtkjdagjhbjpcnaaTlI
namespace Go.Proofs.Ytkjdagjhbjpcnaa.Tl
open Go.RowKit Go.Proofs.Ytkjdagjhbjpcnaa.Oct Go.Proofs.Ytkjdagjhbjpcnaa.Mv Go.Maps
set_option linter.unusedVariables false

theorem up_eq {w : World} {a cb mb c : Nat} {s s' : St} (h : At w a cb mb c s) (b r : Int) (hr : s.up b = (r, s')) :
    Calls Try.prog 19 #[.pointer (some ⟨a, 0, none⟩), .int .i64 b] w fun e w' => e = .returned (.int .i64 r) ∧ At w' a cb mb c s' ∧ But w w' cb mb := by
  have := up_at h b
  rw [hr] at this
  exact this
theorem down_eq {w : World} {a cb mb c : Nat} {s s' : St} (h : At w a cb mb c s) (b r : Int) (hr : s.down b = (r, s')) :
    Calls Try.prog 21 #[.pointer (some ⟨a, 0, none⟩), .int .i64 b] w fun e w' => e = .returned (.int .i64 r) ∧ At w' a cb mb c s' ∧ But w w' cb mb := by
  have := down_at h b
  rw [hr] at this
  exact this
theorem get_eq {w : World} {a cb mb c : Nat} {s : St} (h : At w a cb mb c s) (i : Nat) (hi : i < s.n) (n : Int) (hr : ((s.cnt i).toNat : Int) = n) :
    Calls Try.prog 32 #[.pointer (some ⟨a, 0, none⟩), .int .i64 (i : Int)] w fun e w' => e = .returned (.int .i64 n) ∧ w = w' := by
  subst hr
  exact get_yes h i hi
theorem free_eq {w : World} {a cb mb c : Nat} {s : St} (h : At w a cb mb c s) (i : Nat) (hi : i < s.n) (r : Bool) (hr : s.free i = r) :
    Calls Try.prog 31 #[.pointer (some ⟨a, 0, none⟩), .int .i64 (i : Int)] w fun e w' => e = .returned (.bool r) ∧ w = w' := by
  subst hr
  exact free_yes h i hi
theorem idle_eq {w : World} {a cb mb c : Nat} {s : St} (h : At w a cb mb c s) (n : Int) (hr : (s.idle : Int) = n) :
    Calls Try.prog 33 #[.pointer (some ⟨a, 0, none⟩)] w fun e w' => e = .returned (.int .i64 n) ∧ Below w.heap.size w w' := by
  subst hr
  exact idle_at h
end Go.Proofs.Ytkjdagjhbjpcnaa.Tl

