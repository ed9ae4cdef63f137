/- Layer 12: the walk of NodeHalves, over whatever comes in. -/
import Derived.Test.YtllopocekegljaaNoM
import Derived.Test.YtllopocekegljaaNoQ
namespace Go.Proofs.Ytllopocekegljaa.No
open Go.RowKit Go.Proofs.Ytllopocekegljaa.Oct Go.Proofs.Ytllopocekegljaa.Lf Go.Proofs.Ytllopocekegljaa.Mv
set_option linter.unusedVariables false

theorem halves_fin (l : Bool) (A : Option Addr) (n c : Nat) (B : Option Addr) (m d : Nat) (ks vs : List UInt64) (a1 : Int) (w : World) (h : Nd w A n c B m d ks vs) (w1 : (Lit.int .u8 a1).wf = true) :
    Calls Try.prog 5 #[.agg #[.bool l, .slice A n c, .slice B m d], .int .u8 a1] w fun e w' => e = .returned (.bool true) ∧ Below w.heap.size w w' := by
  obtain ⟨k, rfl⟩ := u8_of w1
  exact halves_walk awake_any l h k
end Go.Proofs.Ytllopocekegljaa.No
