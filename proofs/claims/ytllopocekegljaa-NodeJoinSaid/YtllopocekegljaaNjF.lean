/- Layer 12: NodeJoin's walk, awake told. -/
import Derived.Test.YtllopocekegljaaNoM
import Derived.Test.YtllopocekegljaaNjA
namespace Go.Proofs.Ytllopocekegljaa.No
open Go.RowKit Go.Proofs.Ytllopocekegljaa.Oct Go.Proofs.Ytllopocekegljaa.Lf Go.Proofs.Ytllopocekegljaa.Mv
set_option linter.unusedVariables false

theorem join_fin (l : Bool) (A : Option Addr) (n c : Nat) (B : Option Addr) (m d : Nat) (ks vs : List UInt64) (l' : Bool) (A' : Option Addr) (n' c' : Nat) (B' : Option Addr) (m' d' : Nat) (ks' vs' : List UInt64) (w : World) (h : Nd w A n c B m d ks vs) (h' : Nd w A' n' c' B' m' d' ks' vs') :
    Calls Try.prog 6 #[.agg #[.bool l, .slice A n c, .slice B m d], .agg #[.bool l', .slice A' n' c', .slice B' m' d']] w fun e w' => e = .returned (.bool true) ∧ Below w.heap.size w w' := join_walk awake_any l l' h h'
end Go.Proofs.Ytllopocekegljaa.No
