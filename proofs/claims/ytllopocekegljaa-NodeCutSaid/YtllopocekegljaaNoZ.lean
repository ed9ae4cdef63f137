/- Layer 12: the walk of NodeCut, over whatever comes in. -/
import Derived.Test.YtllopocekegljaaNoM
import Derived.Test.YtllopocekegljaaNoU
namespace Go.Proofs.Ytllopocekegljaa.No
open Go.RowKit Go.Proofs.Ytllopocekegljaa.Oct Go.Proofs.Ytllopocekegljaa.Lf Go.Proofs.Ytllopocekegljaa.Mv
set_option linter.unusedVariables false

theorem cut_fin (l : Bool) (A : Option Addr) (n c : Nat) (B : Option Addr) (m d : Nat) (ks vs : List UInt64) (a1 a2 a3 : Int) (w : World) (h : Nd w A n c B m d ks vs) (w1 : (Lit.int .u64 a1).wf = true) (w2 : (Lit.int .u64 a2).wf = true) (w3 : (Lit.int .u64 a3).wf = true) :
    Calls Try.prog 7 #[.agg #[.bool l, .slice A n c, .slice B m d], .int .u64 a1, .int .u64 a2, .int .u64 a3] w fun e w' => e = .returned (.bool true) ∧ Below w.heap.size w w' := by
  obtain ⟨x, rfl⟩ := num_of w1
  obtain ⟨y, rfl⟩ := num_of w2
  obtain ⟨z, rfl⟩ := num_of w3
  exact cut_walk awake_any l h x y z
end Go.Proofs.Ytllopocekegljaa.No
