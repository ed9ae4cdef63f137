/- Contracts for walks that go on whether there is a table or not. -/
import Derived.Test.YtbhajmecaemafaaTbH
namespace Go.Proofs.Ytbhajmecaemafaa.Tb
open Go.RowKit Go.Proofs.Ytbhajmecaemafaa.Oct
set_option linter.unusedVariables false

/-- If these pairs are right, there is a table of them. -/
def Maybe (w : World) (tp : Option Addr) (ps : List Pr) (rest : UInt64) : Prop := newErr ps = 0 → ∃ a b, tp = some ⟨a, 0, none⟩ ∧ Tab w a b ps rest
theorem Maybe.kept {w w' : World} {tp : Option Addr} {ps : List Pr} {rest : UInt64} (h : Maybe w tp ps rest) (k : Below w.heap.size w w') : Maybe w' tp ps rest := fun e => by
  obtain ⟨a, b, h1, h2⟩ := h e
  exact ⟨a, b, h1, h2.kept k⟩
theorem new_uni {w : World} {A : Option Addr} {n c : Nat} {l : List Pair} (h : PIn w A n c l) (rest : UInt64) :
    Calls Try.prog 10 #[.slice A n c, .int .u64 (rest.toNat : Int)] w fun e w' => ∃ tp, e = .returned (.tuple #[.pointer tp, .int .i64 (newErr (tells l))]) ∧ Maybe w' tp (tells l) rest ∧ Below w.heap.size w w' := by
  refine (new_any h rest).mono fun e w' hp => ?_
  unfold NewPost at hp
  by_cases hg : newErr (tells l) = 0
  · rw [if_pos hg] at hp
    obtain ⟨a, b, h1, h2, h3, h4, h5⟩ := hp
    rw [hg]
    exact ⟨some ⟨a, 0, none⟩, h1, fun _ => ⟨a, b, rfl, h4⟩, h5⟩
  · rw [if_neg hg] at hp
    exact ⟨none, hp.1, fun e => absurd e hg, hp.2⟩
theorem Part.Ok.kept {w w' : World} {p : Part} (h : p.Ok w) (k : Below w.heap.size w w') : p.Ok w' := h.below k
theorem Pair.Ok.kept {w w' : World} {p : Pair} (h : p.Ok w) (k : Below w.heap.size w w') : p.Ok w' := h.below k
theorem RowV.kept {w w' : World} {g : Nat} {T : TypeId} {vs : List Value} (h : RowV w g T vs) (k : Below w.heap.size w w') : RowV w' g T vs := h.below h.lt k
theorem RowV.Held {w : World} {g : Nat} {T : TypeId} {vs : List Value} (h : RowV w g T vs) : RowV w g T vs := h
theorem len_is {w : World} {a b : Nat} {ps : List Pr} {rest : UInt64} (h : Tab w a b ps rest) (z : Int) (hz : (ps.length : Int) = z) :
    Calls Try.prog 15 #[.pointer (some ⟨a, 0, none⟩)] w fun e w' => e = .returned (.int .i64 z) ∧ w = w' := by
  subst hz
  exact len_tab h
end Go.Proofs.Ytbhajmecaemafaa.Tb
