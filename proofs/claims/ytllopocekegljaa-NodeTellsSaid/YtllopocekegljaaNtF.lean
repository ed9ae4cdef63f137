/- Layer 12: NodeTells' walk, awake told. -/
import Derived.Test.YtllopocekegljaaNoM
import Derived.Test.YtllopocekegljaaNrK
import Derived.Test.YtllopocekegljaaNoP
namespace Go.Proofs.Ytllopocekegljaa.No
open Go.RowKit Go.Proofs.Ytllopocekegljaa.Oct Go.Proofs.Ytllopocekegljaa.Lf Go.Proofs.Ytllopocekegljaa.Mv
set_option linter.unusedVariables false

theorem tells_fin (l : Bool) (A : Option Addr) (n c : Nat) (B : Option Addr) (m d : Nat) (ks vs : List UInt64) (l' : Bool) (A' : Option Addr) (n' c' : Nat) (B' : Option Addr) (m' d' : Nat) (ks' vs' : List UInt64) (a1 a2 : Int) (w : World) (h : Nd w A n c B m d ks vs) (h' : Nd w A' n' c' B' m' d' ks' vs') (w1 : (Lit.int .u64 a1).wf = true) (w2 : (Lit.int .u64 a2).wf = true) :
    Calls Try.prog 3 #[.agg #[.bool l, .slice A n c, .slice B m d], .agg #[.bool l', .slice A' n' c', .slice B' m' d'], .int .u64 a1, .int .u64 a2] w fun e w' => e = .returned (.bool true) ∧ Below w.heap.size w w' := by
  obtain ⟨k, rfl⟩ := num_of w1
  obtain ⟨x, rfl⟩ := num_of w2
  exact tells_walk awake_any l l' h h' k x
end Go.Proofs.Ytllopocekegljaa.No
