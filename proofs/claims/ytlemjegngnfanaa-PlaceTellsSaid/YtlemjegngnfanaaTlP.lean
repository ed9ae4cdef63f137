/- done: an operation, its block among those there are. -/
import Derived.Test.YtlemjegngnfanaaTlO
namespace Go.Proofs.Ytlemjegngnfanaa.Tl
open Go.RowKit Go.Proofs.Ytlemjegngnfanaa.Oct Go.Proofs.Ytlemjegngnfanaa.Mv Go.Maps
set_option linter.unusedVariables false

/-- A number's place among n. -/
def spot (n : Nat) (b : Int) : Nat := ((b.tmod n + n).tmod n).toNat
theorem spot_lt {n : Nat} (h : 0 < n) (b : Int) : spot n b < n := by
  unfold spot
  have h1 : (0 : Int) < n := by omega
  have h2 := Int.lt_tmod_of_pos b h1
  have h3 := Int.tmod_lt_of_pos b h1
  have h4 := Int.tmod_lt_of_pos (b.tmod n + n) h1
  have h5 : 0 ≤ (b.tmod n + n).tmod n := Int.tmod_nonneg _ (by omega)
  omega
theorem spot_is {n : Nat} (h : 0 < n) (b : Int) : (b.tmod n + n).tmod n = (spot n b : Int) := by
  unfold spot
  have h1 : (0 : Int) < n := by omega
  have h2 := Int.lt_tmod_of_pos b h1
  have h5 : 0 ≤ (b.tmod n + n).tmod n := Int.tmod_nonneg _ (by omega)
  omega
/-- What comes of an operation. -/
def St.did (s : St) (x : Opr) : St :=
  if x.what.toNat % 4 = 0 then (s.up (spot s.n x.b : Int)).2 else if x.what.toNat % 4 = 1 then (s.down (spot s.n x.b : Int)).2 else if x.what.toNat % 4 = 2 then s.keep else s.back
theorem calls_flip {P : Program} {f : FuncId} {args : Array Value} {w : World} {v : Value} (h : Calls P f args w fun e w' => e = .returned v ∧ w = w') : Calls P f args w fun e w' => e = .returned v ∧ w' = w :=
  h.mono fun _ _ ⟨h1, h2⟩ => ⟨h1, h2.symm⟩
theorem At.drewN {w : World} {a cb mb c : Nat} {s : St} (h : At w a cb mb c s) (n : Nat) : At (w.drewN n) a cb mb c s := h.blocks rfl rfl rfl
end Go.Proofs.Ytlemjegngnfanaa.Tl

