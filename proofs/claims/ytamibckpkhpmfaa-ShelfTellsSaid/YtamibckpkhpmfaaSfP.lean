/- What the frames of the statements hand to their walks: shelves that come in. -/
import Derived.Test.YtamibckpkhpmfaaSfN
import Derived.Deep.SlicePairs
import Derived.Lib.SmallJoins
namespace Go.Proofs.Ytamibckpkhpmfaa.Sf
open Go.RowKit Go.Proofs.Ytamibckpkhpmfaa.Oct Go.ChangeShapes Go.WideShapes Go.ChangeAt
set_option linter.unusedVariables false

theorem u64_of {n : Int} (h : (Lit.int .u64 n).wf = true) : ∃ c : UInt64, n = (c.toNat : Int) := by
  have h2 : IntKind.u64.min ≤ n ∧ n ≤ IntKind.u64.max := by simpa [Lit.wf] using h
  have h3 : (0 : Int) ≤ n ∧ n ≤ 18446744073709551615 := h2
  refine ⟨UInt64.ofNat n.toNat, ?_⟩
  simp
  omega
theorem u32_of {n : Int} (h : (Lit.int .u32 n).wf = true) : ∃ c : UInt32, n = (c.toNat : Int) := by
  have h2 : IntKind.u32.min ≤ n ∧ n ≤ IntKind.u32.max := by simpa [Lit.wf] using h
  have h3 : (0 : Int) ≤ n ∧ n ≤ 4294967295 := h2
  refine ⟨UInt32.ofNat n.toNat, ?_⟩
  simp
  omega
theorem evals_has {w : World} {b o : Nat} {es : List Ent} (h : ∀ i (hi : i < es.length), w.cell? ⟨b, o + i * 2, none⟩ = some (.int .u64 (es[i].1.toNat : Int)) ∧ w.cell? ⟨b, o + (i * 2 + 1), none⟩ = some (.int .u32 (es[i].2.toNat : Int))) : HasV w b o (evals es) := by
  intro j hj
  have hl := length_evals es
  rcases Nat.mod_two_eq_zero_or_one j with h0 | h0
  · have h1 := evals_print es (j / 2) (by omega)
    have h2 := (h (j / 2) (by omega)).1
    rw [show 2 * (j / 2) = j by omega, List.getElem?_eq_getElem hj] at h1
    rw [show j / 2 * 2 = j by omega] at h2
    rw [h2, Option.some.inj h1]
  · have h1 := evals_block es (j / 2) (by omega)
    have h2 := (h (j / 2) (by omega)).2
    rw [show 2 * (j / 2) + 1 = j by omega, List.getElem?_eq_getElem hj] at h1
    rw [show j / 2 * 2 + 1 = j by omega] at h2
    rw [h2, Option.some.inj h1]

section
variable {H : Type} {enc : TypeId × Value → H} {W : World}
theorem came_ents {fuel : Nat} {v : Value} {y : DataW H × List MemPlace} (hf : DataW.trod enc Try.prog W 0 (fun _ => true) true fuel 23 [v] = some y) :
    ∃ A n c es, v = .slice A n c ∧ Sh W A n c es ∧ (A = none → c = 0) := by
  rcases Go.Deep.open_slice_pairs Try.underlying23 Try.underlying40 (by kernel_rfl) rfl rfl (by kernel_rfl) (by kernel_rfl) hf with ⟨hcs, _⟩ | ⟨a, len', cap', m, n, V0, V1, D0, D1, P0, P1, hcs, _, hl, hm, hmm, _, hi⟩
  · simp at hcs
    exact ⟨none, 0, 0, [], hcs, ⟨rfl, Nat.le_refl _, Nat.zero_le _, .inl rfl⟩, fun _ => rfl⟩
  · simp at hcs
    rw [if_pos rfl] at hmm
    subst hmm
    have each : ∀ i, i < m → ∃ q : Ent, W.cell? (a.add (i * 2)) = some (.int .u64 (q.1.toNat : Int)) ∧ W.cell? (a.add (i * 2 + 1)) = some (.int .u32 (q.2.toNat : Int)) := fun i him => by
      obtain ⟨h0, h1, t0, t1⟩ := hi i him
      obtain ⟨x, e0, _, w0⟩ := DataW.trod_int Try.underlying38 t0
      obtain ⟨y, e1, _, w1⟩ := DataW.trod_int Try.underlying22 t1
      obtain ⟨c, rfl⟩ := u64_of w0
      obtain ⟨c', rfl⟩ := u32_of w1
      simp at e0 e1
      exact ⟨(c, c'), by rw [h0, e0], by rw [h1, e1]⟩
    obtain ⟨F, hF⟩ : ∃ F : Nat → Ent, ∀ i, i < m → W.cell? (a.add (i * 2)) = some (.int .u64 ((F i).1.toNat : Int)) ∧ W.cell? (a.add (i * 2 + 1)) = some (.int .u32 ((F i).2.toNat : Int)) :=
      ⟨fun i => if h : i < m then (each i h).choose else (0, 0), fun i h => by simp only [h, dif_pos]; exact (each i h).choose_spec⟩
    refine ⟨some a, len', m, (List.range len').map F, hcs, ⟨by simp, hl, hm, ?_⟩, fun h => by cases h⟩
    rcases Nat.eq_zero_or_pos len' with h0 | h0
    · left; subst h0; rfl
    · have h1 := (hF 0 (by omega)).1
      obtain ⟨b, o, spot⟩ := a
      have hspot : spot = none := by simpa [Addr.add] using World.cell?_spot h1
      subst hspot
      refine .inr ⟨b, o, rfl, evals_has fun i hi2 => ?_⟩
      have hil : i < len' := by simpa using hi2
      have := hF i (by omega)
      rw [Oct.add_plain, Oct.add_plain] at this
      simpa using this
theorem cellsShelf : Try.prog.cellsOf 25 = 3 := by kernel_rfl
theorem came_shelfn {b0 : Nat} {v : Value} {d : DataW H} {p : List MemPlace} (hv : Value.okWide Try.prog W .any b0 25 v) (h : DataW.Trod enc Try.prog W 0 (fun _ => true) true 25 v d p) :
    ∃ (d : UInt8) (nx : UInt32) (A : Option Addr) (n c : Nat) (es : List Ent), v = .agg #[.int .u8 (d.toNat : Int), .int .u32 (nx.toNat : Int), .slice A n c] ∧ Sh W A n c es ∧ (A = none → c = 0) := by
  obtain ⟨c0, c1, c2, y0, y1, y2, m, hv, _, _, hy0, hy1, hy2⟩ := Go.Joins.open_agg3 Try.underlying25 (by kernel_rfl) cellsShelf hv h
  obtain ⟨x, e0, _, w0⟩ := DataW.trod_int Try.underlying5 hy0
  obtain ⟨y, e1, _, w1⟩ := DataW.trod_int Try.underlying22 hy1
  obtain ⟨dd, rfl⟩ := u8_of w0
  obtain ⟨nn, rfl⟩ := u32_of w1
  obtain ⟨A, n, c, es, rfl, hk⟩ := came_ents hy2
  simp at e0 e1
  subst e0 e1
  exact ⟨dd, nn, A, n, c, es, hv, hk⟩
theorem came_shelf {b0 : Nat} {v : Value} {d : DataW H} {p : List MemPlace} (hv : Value.okWide Try.prog W .any b0 25 v) (h : DataW.Trod enc Try.prog W 0 (fun _ => true) true 25 v d p) :
    ∃ (d : UInt8) (nx : UInt32) (A : Option Addr) (n c : Nat) (es : List Ent), v = .agg #[.int .u8 (d.toNat : Int), .int .u32 (nx.toNat : Int), .slice A n c] ∧ Sh W A n c es := by
  obtain ⟨d, nx, A, n, c, es, hv, hs, _⟩ := came_shelfn hv h
  exact ⟨d, nx, A, n, c, es, hv, hs⟩
end
end Go.Proofs.Ytamibckpkhpmfaa.Sf
