/- Contracts of catchment's octets for numbers: within, Get. Conditions: the slice's bytes lie in memory as told. -/
import Derived.Test.YtkhimoclikhlaaaMemLow
import Derived.WalkKit
import Derived.ProofKit
import Derived.OpenShut
import Derived.ShutString
import Derived.ChangeOld
import Derived.Below
import Derived.Lib.Hide
import Derived.WalkSpells
import Derived.WalkLawsBesides
namespace Go.Proofs.Ytkhimoclikhlaaa.Oct
open Go.RowKit
set_option linter.unusedVariables false
theorem within_yes (a : Option Addr) (len cap : Nat) (p s : Int) (w : World) (hl : len ≤ maxLen) (h1 : 1 ≤ s) (h8 : s ≤ 8) (h0 : 0 ≤ p) (hp : p ≤ len - s) :
    Calls Try.prog 39 #[.slice a len cap, .int .i64 p, .int .i64 s] w fun e w' => e = .returned (.bool true) ∧ w = w' := by
  unfold maxLen at hl
  go_enter Try.func39, Try.ntmps39
  go_wp2
  go_ret
  exact ⟨rfl, rfl⟩
theorem within_no (a : Option Addr) (len cap : Nat) (p s : Int) (w : World) (hl : len ≤ maxLen) (h : ¬ (1 ≤ s ∧ s ≤ 8 ∧ 0 ≤ p ∧ p ≤ len - s)) :
    Calls Try.prog 39 #[.slice a len cap, .int .i64 p, .int .i64 s] w fun e w' => e = .returned (.bool false) ∧ w = w' := by
  unfold maxLen at hl
  by_cases h1 : 1 ≤ s
  · by_cases h8 : s ≤ 8
    · by_cases h0 : 0 ≤ p
      · have hp : ¬ p ≤ len - s := by omega
        clear h
        go_enter Try.func39, Try.ntmps39
        go_wp2
        go_ret
        exact ⟨rfl, rfl⟩
      · clear h
        go_enter Try.func39, Try.ntmps39
        go_wp2
        go_ret
        exact ⟨rfl, rfl⟩
    · clear h
      go_enter Try.func39, Try.ntmps39
      go_wp2
      go_ret
      exact ⟨rfl, rfl⟩
  · clear h
    go_enter Try.func39, Try.ntmps39
    go_wp2
    go_ret
    exact ⟨rfl, rfl⟩
end Go.Proofs.Ytkhimoclikhlaaa.Oct
