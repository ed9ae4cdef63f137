/- What the frames of the statements hand to their walks: nodes that come in. -/
import Derived.Test.YtllopocekegljaaLfC
import Derived.Lib.SmallJoins
namespace Go.Proofs.Ytllopocekegljaa.Lf
open Go.RowKit Go.Proofs.Ytllopocekegljaa.Oct Go.ChangeShapes Go.WideShapes Go.ChangeAt
set_option linter.unusedVariables false

section
variable {H : Type} {enc : TypeId × Value → H} {W : World}
theorem came_nums {n : Nat} {v : Value} {y : DataW H × List MemPlace} (h : DataW.trod enc Try.prog W 0 (fun _ => true) true n 22 [v] = some y) :
    ∃ A len cap ks, v = .slice A len cap ∧ CameN W A len cap ks := by
  rcases open_ints Try.underlying22 Try.underlying25 (by kernel_rfl) h with ⟨hcs, _⟩ | ⟨x, l, c, zs, hcs, _, hl, hm, hz, _, hcell, hwz⟩
  · simp at hcs
    exact ⟨none, 0, 0, [], hcs, rfl, .inl rfl, Nat.le_refl _, Nat.zero_le _⟩
  · simp at hcs
    obtain ⟨ns, hn⟩ := cameN (w := W) (a := some x) (len := l) (cap := c) (zs := zs) (.inr ⟨_, rfl, hl, hm, by simpa using hz, hcell, hwz⟩)
    exact ⟨some x, l, c, ns, hcs, hn⟩
theorem cellsNode : Try.prog.cellsOf 24 = 3 := by kernel_rfl
theorem came_node {b0 : Nat} {v : Value} {d : DataW H} {p : List MemPlace} (hv : Value.okWide Try.prog W .any b0 24 v) (h : DataW.Trod enc Try.prog W 0 (fun _ => true) true 24 v d p) :
    ∃ l A n c B m e ks vs, v = .agg #[.bool l, .slice A n c, .slice B m e] ∧ Nd W A n c B m e ks vs := by
  obtain ⟨c0, c1, c2, y0, y1, y2, m, hv, _, _, hy0, hy1, hy2⟩ := Go.Joins.open_agg3 Try.underlying24 (by kernel_rfl) cellsNode hv h
  obtain ⟨l, e0, _⟩ := DataW.trod_bool Try.underlying4 hy0
  obtain ⟨A, n, c, ks, rfl, hk⟩ := came_nums hy1
  obtain ⟨B, k, e, vs, rfl, hw⟩ := came_nums hy2
  simp at e0
  subst e0
  exact ⟨l, A, n, c, B, k, e, ks, vs, hv, hk.hlen, hw.hlen, hk.le, hk.hcap, hw.le, hw.hcap, hk.told, hw.told⟩
end
end Go.Proofs.Ytllopocekegljaa.Lf

