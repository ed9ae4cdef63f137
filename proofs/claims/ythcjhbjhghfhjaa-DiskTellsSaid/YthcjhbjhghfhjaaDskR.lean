/- What the frames of the statements hand to their walks: crashes and lists of writes that come in. -/
import Derived.Test.YthcjhbjhghfhjaaDskP
import Derived.Deep.Grids
import Derived.Deep.SlicePairs
import Derived.Lib.SmallJoins
namespace Go.Proofs.Ythcjhbjhghfhjaa.Dsk
open Go.RowKit Go.Proofs.Ythcjhbjhghfhjaa.Oct Go.ChangeShapes Go.WideShapes Go.ChangeAt
set_option linter.unusedVariables false

structure KeepIn (w : World) (A : Option Addr) (len cap : Nat) (ks : List Bool) : Prop where
  hlen : ks.length = len
  flags : Flags w A ks
  le : len ≤ cap
  cap : cap ≤ maxLen
/-- Two bytes an element. -/
def Pairs (w : World) (A : Option Addr) (ps : List (UInt8 × UInt8)) : Prop := ps = [] ∨ ∃ b o, A = some ⟨b, o, none⟩ ∧
  ∀ i (h : i < ps.length), w.cell? ⟨b, o + i * 2, none⟩ = some (.int .u8 (ps[i].1.toNat : Int)) ∧ w.cell? ⟨b, o + (i * 2 + 1), none⟩ = some (.int .u8 (ps[i].2.toNat : Int))
structure PutsIn (w : World) (A : Option Addr) (len cap : Nat) (ps : List (UInt8 × UInt8)) : Prop where
  hlen : ps.length = len
  pairs : Pairs w A ps
  le : len ≤ cap
  cap : cap ≤ maxLen

section
variable {H : Type} {enc : TypeId × Value → H} {W : World}
theorem came_keep {n : Nat} {v : Value} {y : DataW H × List MemPlace} (h : DataW.trod enc Try.prog W 0 (fun _ => true) true n 35 [v] = some y) :
    ∃ A len cap ks, v = .slice A len cap ∧ KeepIn W A len cap ks := by
  rcases Go.Deep.open_bools Try.underlying35 Try.underlying4 (by kernel_rfl) h with ⟨hcs, _⟩ | ⟨a, len, cap, F, hcs, _, hl, hm, _, hF⟩
  · simp at hcs
    exact ⟨none, 0, 0, [], hcs, rfl, .inl rfl, Nat.le_refl _, Nat.zero_le _⟩
  · simp at hcs
    refine ⟨some a, len, cap, (List.range len).map F, hcs, by simp, ?_, hl, hm⟩
    rcases Nat.eq_zero_or_pos len with h0 | h0
    · left; simp [h0]
    · have h1 := hF 0 (by omega)
      obtain ⟨b, o, spot⟩ := a
      have hspot : spot = none := by simpa [Addr.add] using World.cell?_spot h1
      subst hspot
      refine .inr ⟨b, o, rfl, fun i hi2 => ?_⟩
      have hil : i < len := by simpa using hi2
      have := hF i (by omega)
      rw [Oct.add_plain] at this
      simpa using this
theorem cellsCrash : Try.prog.cellsOf 37 = 3 := by kernel_rfl
theorem came_crash {b0 : Nat} {v : Value} {d : DataW H} {p : List MemPlace} (hv : Value.okWide Try.prog W .any b0 37 v) (h : DataW.Trod enc Try.prog W 0 (fun _ => true) true 37 v d p) :
    ∃ KA len kc ks torn cut, v = .agg #[.slice KA len kc, .int .i64 torn, .int .i64 cut] ∧ KeepIn W KA len kc ks ∧ (Lit.int .i64 torn).wf = true ∧ (Lit.int .i64 cut).wf = true := by
  obtain ⟨c0, c1, c2, y0, y1, y2, m, hv, _, _, hy0, hy1, hy2⟩ := Go.Joins.open_agg3 Try.underlying37 (by kernel_rfl) cellsCrash hv h
  obtain ⟨KA, len, kc, ks, rfl, hk⟩ := came_keep hy0
  obtain ⟨torn, e1, _, w1⟩ := DataW.trod_int Try.underlying3 hy1
  obtain ⟨cut, e2, _, w2⟩ := DataW.trod_int Try.underlying3 hy2
  simp at e1 e2
  subst e1 e2
  exact ⟨KA, len, kc, ks, torn, cut, hv, hk, w1, w2⟩
theorem came_puts {d : DataW H} {p : List MemPlace} (A : Option Addr) (len cap : Nat) (h : DataW.Trod enc Try.prog W 0 (fun _ => true) true 45 (.slice A len cap) d p) :
    ∃ ps, PutsIn W A len cap ps := by
  obtain ⟨fuel, hf⟩ := h
  rcases Go.Deep.open_slice_pairs Try.underlying45 Try.underlying53 (by kernel_rfl) rfl rfl (by kernel_rfl) (by kernel_rfl) hf with ⟨hcs, _⟩ | ⟨a, len', cap', m, n, V0, V1, D0, D1, P0, P1, hcs, _, hl, hm, hmm, _, hi⟩
  · simp [Value.cells] at hcs
    obtain ⟨rfl, rfl, rfl⟩ := hcs
    exact ⟨[], rfl, .inl rfl, Nat.le_refl _, Nat.zero_le _⟩
  · simp [Value.cells] at hcs
    obtain ⟨rfl, rfl, rfl⟩ := hcs
    rw [if_pos rfl] at hmm
    subst hmm
    have each : ∀ i, i < m → ∃ q : UInt8 × UInt8, W.cell? (a.add (i * 2)) = some (.int .u8 (q.1.toNat : Int)) ∧ W.cell? (a.add (i * 2 + 1)) = some (.int .u8 (q.2.toNat : Int)) := fun i him => by
      obtain ⟨h0, h1, t0, t1⟩ := hi i him
      obtain ⟨x, e0, _, w0⟩ := DataW.trod_int Try.underlying5 t0
      obtain ⟨y, e1, _, w1⟩ := DataW.trod_int Try.underlying5 t1
      obtain ⟨c, rfl⟩ := u8_of w0
      obtain ⟨c', rfl⟩ := u8_of w1
      simp at e0 e1
      exact ⟨(c, c'), by rw [h0, e0], by rw [h1, e1]⟩
    obtain ⟨F, hF⟩ : ∃ F : Nat → UInt8 × UInt8, ∀ i, i < m → W.cell? (a.add (i * 2)) = some (.int .u8 ((F i).1.toNat : Int)) ∧ W.cell? (a.add (i * 2 + 1)) = some (.int .u8 ((F i).2.toNat : Int)) :=
      ⟨fun i => if h : i < m then (each i h).choose else (0, 0), fun i h => by simp only [h, dif_pos]; exact (each i h).choose_spec⟩
    refine ⟨(List.range len).map F, by simp, ?_, hl, hm⟩
    rcases Nat.eq_zero_or_pos len with h0 | h0
    · left; simp [h0]
    · have h1 := (hF 0 (by omega)).1
      obtain ⟨b, o, spot⟩ := a
      have hspot : spot = none := by simpa [Addr.add] using World.cell?_spot h1
      subst hspot
      refine .inr ⟨b, o, rfl, fun i hi2 => ?_⟩
      have hil : i < len := by simpa using hi2
      have := hF i (by omega)
      rw [Oct.add_plain, Oct.add_plain] at this
      simpa using this
end
end Go.Proofs.Ythcjhbjhghfhjaa.Dsk
