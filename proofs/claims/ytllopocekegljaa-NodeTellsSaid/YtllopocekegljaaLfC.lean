/- Contracts: leaf.Right and EqualNodes. -/
import Derived.Test.YtllopocekegljaaLfB
namespace Go.Proofs.Ytllopocekegljaa.Lf
open Go.RowKit Go.Proofs.Ytllopocekegljaa.Oct
set_option linter.unusedVariables false

/-- Which nodes are right. -/
def Fit (l : Bool) (ks vs : List UInt64) : Prop := ks.length ≤ 7 ∧ vs.length = ks.length ∧ Rises ks ∧ (l = true ∨ (0 < ks.length ∧ Kids vs))
instance (l : Bool) (ks vs : List UInt64) : Decidable (Fit l ks vs) := by unfold Fit; infer_instance

/-- A node's keys and values are told. -/
structure Nd (w : World) (A : Option Addr) (n c : Nat) (B : Option Addr) (m d : Nat) (ks vs : List UInt64) : Prop where
  kl : ks.length = n
  vl : vs.length = m
  kc : n ≤ c
  km : c ≤ maxLen
  vc : m ≤ d
  vm : d ≤ maxLen
  ks : ToldN w A ks
  vs : ToldN w B vs
theorem Nd.below {w w' : World} {A B : Option Addr} {n c m d : Nat} {ks vs : List UInt64} (h : Nd w A n c B m d ks vs) (k : Below w.heap.size w w') : Nd w' A n c B m d ks vs := ⟨h.kl, h.vl, h.kc, h.km, h.vc, h.vm, h.ks.below k, h.vs.below k⟩

theorem Nd.boxed {w : World} {A B : Option Addr} {n c m d : Nat} {ks vs : List UInt64} (h : Nd w A n c B m d ks vs) (o : Obj) : Nd (w.alloc o) A n c B m d ks vs := h.below ((Below.refl _ _).alloc (Nat.le_refl _) _)
theorem Nd.still {w w' : World} {A B : Option Addr} {n c m d : Nat} {ks vs : List UInt64} (h : Nd w A n c B m d ks vs) (S : Still w w') : Nd w' A n c B m d ks vs := ⟨h.kl, h.vl, h.kc, h.km, h.vc, h.vm, h.ks.still S, h.vs.still S⟩

theorem fit_leaf {ks vs : List UInt64} (h1 : ks.length ≤ 7) (h2 : vs.length = ks.length) (h3 : Rises ks) : Fit true ks vs := ⟨h1, h2, h3, .inl rfl⟩
theorem fit_inner {ks vs : List UInt64} (h1 : ks.length ≤ 7) (h2 : vs.length = ks.length) (h3 : Rises ks) (h4 : 0 < ks.length) : decide (Fit false ks vs) = decide (Kids vs) :=
  decide_eq_decide.2 ⟨fun h => by rcases h.2.2.2 with h | h; cases h; exact h.2, fun h => ⟨h1, h2, h3, .inr ⟨h4, h⟩⟩⟩
theorem fit_bare {ks vs : List UInt64} (h4 : ¬ 0 < ks.length) : ¬ Fit false ks vs := fun h => by
  rcases h.2.2.2 with h | h
  · cases h
  · exact h4 h.1

theorem box_cell (w : World) (xs : Array Value) (T : TypeId) (i : Nat) (v : Value) (h : xs[i]? = some v) : (w.alloc (.cells xs T)).cell? ⟨w.heap.size, i, none⟩ = some v := by
  have := heap_alloc_new w (.cells xs T)
  generalize w.alloc (.cells xs T) = w' at this
  simp [World.cell?, this, h]

end Go.Proofs.Ytllopocekegljaa.Lf

