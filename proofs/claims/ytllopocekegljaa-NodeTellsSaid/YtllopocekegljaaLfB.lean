/- Contracts: slices.Index, slices.Contains of numbers; leaf's rising and kids; EqualNumbers and AgainNumbers. -/
import Derived.Test.YtllopocekegljaaLfA
namespace Go.Proofs.Ytllopocekegljaa.Lf
open Go.RowKit Go.Proofs.Ytllopocekegljaa.Oct
set_option linter.unusedVariables false

def Rises (ks : List UInt64) : Prop := ks.Pairwise (fun a b => a.toNat < b.toNat)
instance (ks : List UInt64) : Decidable (Rises ks) := by unfold Rises; infer_instance
def Kids (vs : List UInt64) : Prop := (∀ v ∈ vs, 1 ≤ v.toNat ∧ v.toNat < 4096) ∧ vs.Nodup
instance (vs : List UInt64) : Decidable (Kids vs) := by unfold Kids; infer_instance

theorem rises_take_succ {ks : List UInt64} {k : Nat} (h0 : 0 < k) (hk : k < ks.length) (h : Rises (ks.take k)) (hl : (ks[k - 1]'(by omega)).toNat < (ks[k]'hk).toNat) : Rises (ks.take (k + 1)) := by
  unfold Rises at *
  rw [List.pairwise_iff_getElem] at *
  intro i j hi hj hij
  simp only [List.length_take] at hi hj
  simp only [List.getElem_take] at *
  by_cases hjk : j = k
  · subst hjk
    by_cases hik : i = j - 1
    · subst hik; exact hl
    · exact Nat.lt_trans (h i (j - 1) (by simp; omega) (by simp; omega) (by omega)) hl
  · exact h i j (by simp; omega) (by simp; omega) hij
theorem rises_not {ks : List UInt64} {k : Nat} (h0 : 0 < k) (hk : k < ks.length) (hl : ¬ (ks[k - 1]'(by omega)).toNat < (ks[k]'hk).toNat) : ¬ Rises ks := by
  unfold Rises
  rw [List.pairwise_iff_getElem]
  exact fun h => hl (h (k - 1) k (by omega) hk (by omega))

theorem kids_take_succ {vs : List UInt64} {k : Nat} (hk : k < vs.length) (h : Kids (vs.take k)) (h1 : 1 ≤ (vs[k]'hk).toNat) (h2 : (vs[k]'hk).toNat < 4096) (h3 : vs[k] ∉ vs.take k) : Kids (vs.take (k + 1)) := by
  rw [List.take_succ_eq_append_getElem hk]
  refine ⟨fun v hv => ?_, ?_⟩
  · rcases List.mem_append.1 hv with hv | hv
    · exact h.1 v hv
    · simp at hv; subst hv; exact ⟨h1, h2⟩
  · rw [List.nodup_append]
    refine ⟨h.2, by simp, fun a ha b hb e => ?_⟩
    simp at hb; subst hb; subst e; exact h3 ha
theorem kids_not1 {vs : List UInt64} {k : Nat} (hk : k < vs.length) (h : ¬ (1 ≤ (vs[k]'hk).toNat ∧ (vs[k]'hk).toNat < 4096)) : ¬ Kids vs := fun hK => h (hK.1 _ (List.getElem_mem hk))
theorem kids_not2 {vs : List UInt64} {k : Nat} (hk : k < vs.length) (h : vs[k] ∈ vs.take k) : ¬ Kids vs := fun hK => by
  have hn := hK.2
  obtain ⟨i, hi, e⟩ := List.mem_iff_getElem.1 h
  simp only [List.length_take] at hi
  rw [List.getElem_take] at e
  unfold List.Nodup at hn
  rw [List.pairwise_iff_getElem] at hn
  exact hn i k (by omega) hk (by omega) e

theorem int_ne_of {a b : UInt64} (h : a ≠ b) : ((a.toNat : Int) == (b.toNat : Int)) = false := by
  rw [beq_eq_false_iff_ne]
  intro e
  exact h (UInt64.toNat_inj.1 (by omega))

theorem eqn_drop {xs ys : List UInt64} {k : Nat} (hx : k < xs.length) (hy : k < ys.length) (h : xs.drop (k + 1) = ys.drop (k + 1)) (e : xs[k] = ys[k]) : xs.drop k = ys.drop k := by
  rw [List.drop_eq_getElem_cons hx, List.drop_eq_getElem_cons hy, e, h]

/-- New numbers: block g, from its head on; nothing that was there has turned. -/
structure FreshN (w w' : World) (g : Nat) (ns : List UInt64) : Prop where
  below : Below w.heap.size w w'
  lo : w.heap.size ≤ g
  hi : g < w'.heap.size
  row : RowN w' g 25 ns

end Go.Proofs.Ytllopocekegljaa.Lf

