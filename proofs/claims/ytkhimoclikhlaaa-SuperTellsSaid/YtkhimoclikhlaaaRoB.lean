/- Appends of bytes to a row that the call owns: nothing else has turned. -/
import Derived.Test.YtkhimoclikhlaaaRoK
namespace Go.Proofs.Ytkhimoclikhlaaa.Oct
open Go.RowKit
set_option linter.unusedVariables false

theorem run_append_bytes2 (w : World) (ty : TypeId) (base : Nat) (v : Value) (xs ys : List UInt8) (hown : Own w base v xs) (g len cap : Nat) (hlen : ys.length = len) (hT : Has w g 0 ys)
    (hsz : xs.length + len ≤ 140737488355328) (hbase : base ≤ w.heap.size) :
    ∃ v' w', (Builtin.append_ #[28, 28] ty #[v, .slice (some ⟨g, 0, none⟩) len cap]).run Try.prog w = .ok v' w' ∧ Own w' base v' (xs ++ ys) ∧ Below base w w' ∧ ∀ k, k < w.heap.size → v.ownBlock ≠ some k → w'.heap[k]? = w.heap[k]? := by
  obtain ⟨i0, hi, hz0, hz1, hz2⟩ := info_parts byte_info
  have hnews : ∀ j u, (vals ys)[j]? = some u → w.cell? ((⟨g, 0, none⟩ : Addr).add j) = some u := fun j u hj => by
    have hjl : j < ys.length := by
      rcases Nat.lt_or_ge j ys.length with h | h
      · exact h
      · rw [List.getElem?_eq_none (by rw [length_vals]; exact h)] at hj; cases hj
    have hv : u = .int .u8 (ys[j].toNat : Int) := by simpa [vals, hjl] using hj.symm
    rw [hv, add_plain]
    exact hT j hjl
  obtain ⟨v', w', hr, ho, hg, _⟩ := run_append_own (P := Try.prog) w base 28 ty 5 i0 (.int .u8 0) 1 1 Try.underlying28 hi hz0 hz1 hz2 rfl (by omega) v xs.length (vals xs) hown ⟨g, 0, none⟩ len cap (vals ys)
    (by rw [length_vals, hlen, Nat.mul_one]) hnews (fun u hu => by simp [vals] at hu; obtain ⟨c, _, rfl⟩ := hu; rfl) (by unfold maxLen; omega) (by omega) hbase
  refine ⟨v', w', hr, ?_, ⟨hg.os, hg.tape, hg.output, hg.size, fun k hk => hg.block k (by omega) (fun e => ?_)⟩, fun k hk hne => hg.block k hk (fun e => hne e.symm)⟩
  · unfold Own
    rw [List.length_append, hlen, show vals (xs ++ ys) = vals xs ++ vals ys by simp [vals]]
    exact ho
  · have := (World.ownsRow.lt hown k e.symm).1
    omega

end Go.Proofs.Ytkhimoclikhlaaa.Oct
