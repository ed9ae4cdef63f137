/- The statement ShelfTells: its walk. -/
import Derived.Test.YtamibckpkhpmfaaSrE
import Derived.Test.YtamibckpkhpmfaaSrG
namespace Go.Proofs.Ytamibckpkhpmfaa.Sf
open Go.RowKit Go.Proofs.Ytamibckpkhpmfaa.Oct
set_option linter.unusedVariables false

theorem tells_all (d : UInt8) (nx : UInt32) (A : Option Addr) (n c : Nat) (es : List Ent) (pa : Option Addr) (plen pcap : Nat) (zs : List Int) (w : World) (h : Sh w A n c es) (hnil : A = none → c = 0) (hp : IsRow .u8 w pa plen pcap zs) :
    Calls Try.prog 3 #[.agg #[.int .u8 (d.toNat : Int), .int .u32 (nx.toNat : Int), .slice A n c], .slice pa plen pcap] w fun e w' => e = .returned (.bool true) ∧ Below w.heap.size w w' :=
  tells_walk rdecode_good d nx A n c es pa plen pcap zs w h hnil hp
end Go.Proofs.Ytamibckpkhpmfaa.Sf
