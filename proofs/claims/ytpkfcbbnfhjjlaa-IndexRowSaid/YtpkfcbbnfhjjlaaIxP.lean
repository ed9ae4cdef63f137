/- What the frames of the statements hand to their walks: numbers of 16 bits that come in. -/
import Derived.Test.YtpkfcbbnfhjjlaaIxF
namespace Go.Proofs.Ytpkfcbbnfhjjlaa.Ix
open Go.RowKit Go.Proofs.Ytpkfcbbnfhjjlaa.Oct Go.Proofs.Ytpkfcbbnfhjjlaa.Sf Go.ChangeShapes Go.WideShapes Go.ChangeAt
set_option linter.unusedVariables false

theorem u16_of {n : Int} (h : (Lit.int .u16 n).wf = true) : ∃ c : UInt16, n = (c.toNat : Int) := by
  have h2 : IntKind.u16.min ≤ n ∧ n ≤ IntKind.u16.max := by simpa [Lit.wf] using h
  have h3 : (0 : Int) ≤ n ∧ n ≤ 65535 := h2
  refine ⟨UInt16.ofNat n.toNat, ?_⟩
  simp
  omega
theorem came_row {w : World} {a : Option Addr} {len cap : Nat} {zs : List Int} (h : IsRow .u16 w a len cap zs) : ∃ l, Wd w a len cap l ∧ (a = none → cap = 0) := by
  rcases h with ⟨rfl, rfl, rfl, rfl⟩ | ⟨x, rfl, hl, hm, hz, hc, hw⟩
  · exact ⟨[], ⟨rfl, Nat.le_refl _, Nat.zero_le _, .inl rfl⟩, fun _ => rfl⟩
  · have each : ∀ i, i < zs.length → ∃ q : UInt16, zs.getD i 0 = (q.toNat : Int) := fun i hi => by
      obtain ⟨c, hc⟩ := u16_of (hw zs[i] (List.getElem_mem hi))
      exact ⟨c, by simp [List.getD, hi, hc]⟩
    obtain ⟨F, hF⟩ : ∃ F : Nat → UInt16, ∀ i, i < zs.length → zs.getD i 0 = ((F i).toNat : Int) :=
      ⟨fun i => if h : i < zs.length then (each i h).choose else 0, fun i h => by simp only [h, dif_pos]; exact (each i h).choose_spec⟩
    refine ⟨(List.range len).map F, ⟨by simp, hl, hm, ?_⟩, fun h => by cases h⟩
    rcases Nat.eq_zero_or_pos len with h0 | h0
    · left; subst h0; rfl
    · have h1 := hc 0 (by omega)
      obtain ⟨b, o, spot⟩ := x
      have hspot : spot = none := by simpa [Addr.add] using World.cell?_spot h1
      subst hspot
      refine .inr ⟨b, o, rfl, fun i hi => ?_⟩
      rw [length_wvals] at hi
      have hil : i < len := by simpa using hi
      have h2 := hc i (by omega)
      rw [Oct.add_plain, hF i (by omega)] at h2
      rw [h2]
      simp [wvals]
section
variable {H : Type} {enc : TypeId × Value → H} {W : World}
theorem came_words {a : Option Addr} {len cap : Nat} {d : DataW H} {p : List MemPlace} (h : DataW.Trod enc Try.prog W 0 (fun _ => true) true 22 (.slice a len cap) d p) : ∃ l, Wd W a len cap l ∧ (a = none → cap = 0) := by
  obtain ⟨fuel, hf⟩ := h
  have : ∃ zs, IsRow .u16 W a len cap zs := by
    rcases open_ints Try.underlying22 Try.underlying43 (by kernel_rfl) hf with ⟨hcs, _⟩ | ⟨x, l, c, zs, hcs, _, hl, hm, hz, _, hcell, hwz⟩
    · simp [Value.cells] at hcs
      obtain ⟨rfl, rfl, rfl⟩ := hcs
      exact ⟨[], .inl ⟨rfl, rfl, rfl, rfl⟩⟩
    · simp [Value.cells] at hcs
      obtain ⟨rfl, rfl, rfl⟩ := hcs
      exact ⟨zs, .inr ⟨_, rfl, hl, hm, by simpa using hz, hcell, hwz⟩⟩
  obtain ⟨zs, h⟩ := this
  exact came_row h
theorem came_word {n : Int} (h : (Lit.int .u16 n).wf = true) : ∃ c : UInt16, n = (c.toNat : Int) := u16_of h
end
end Go.Proofs.Ytpkfcbbnfhjjlaa.Ix
