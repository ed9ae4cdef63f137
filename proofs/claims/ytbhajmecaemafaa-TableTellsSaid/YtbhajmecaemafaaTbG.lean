/- What the frames hand to the walks: pairs, and slices of bytes, that came in. -/
import Derived.Test.YtbhajmecaemafaaTbF
import Derived.Deep.Slices
import Derived.Deep.SlicePairs
namespace Go.Proofs.Ytbhajmecaemafaa.Tb
open Go.RowKit Go.Proofs.Ytbhajmecaemafaa.Oct Go.ChangeShapes Go.WideShapes Go.ChangeAt
set_option linter.unusedVariables false

/-- A slice of bytes as it stands in memory. -/
structure Part where
  A : Option Addr
  n : Nat
  c : Nat
  bs : List UInt8
structure Part.Ok (w : World) (p : Part) : Prop where
  len : p.bs.length = p.n
  told : Oct.Told w p.A p.bs
  le : p.n ≤ maxLen
def bvals (l : List Part) : List Value := l.map fun p => .slice p.A p.n p.c
theorem length_bvals (l : List Part) : (bvals l).length = l.length := by simp [bvals]
/-- A slice of slices of bytes is told. -/
structure BIn (w : World) (A : Option Addr) (n c : Nat) (l : List Part) : Prop where
  el : l.length = n
  kc : n ≤ c
  km : c ≤ maxLen
  ok : ∀ p ∈ l, p.Ok w
  lies : ToldV w A (bvals l)
  nil : A = none → c = 0
theorem Part.Ok.below {w w' : World} {p : Part} (h : p.Ok w) (k : Below w.heap.size w w') : p.Ok w' := ⟨h.len, told_below h.told k, h.le⟩
theorem BIn.kept {w w' : World} {A : Option Addr} {n c : Nat} {l : List Part} (h : BIn w A n c l) (k : Below w.heap.size w w') : BIn w' A n c l :=
  ⟨h.el, h.kc, h.km, fun p hp => (h.ok p hp).below k, h.lies.below k, h.nil⟩
theorem BIn.at {w : World} {A : Option Addr} {n c k : Nat} {l : List Part} (h : BIn w A n c l) (hk : k < n) :
    ∃ b o, A = some ⟨b, o, none⟩ ∧ b < w.heap.size ∧ w.cell? ⟨b, o + k, none⟩ = some (.slice (l[k]'(by rw [h.el]; exact hk)).A (l[k]'(by rw [h.el]; exact hk)).n (l[k]'(by rw [h.el]; exact hk)).c) := by
  have hl := length_bvals l
  have he := h.el
  obtain ⟨b, o, rfl, hb⟩ := h.lies.has (by omega)
  refine ⟨b, o, rfl, hb.lt (by omega), hb.cellAt ?_⟩
  simp [bvals, he, hk]

section
variable {H : Type} {enc : TypeId × Value → H} {W : World}
theorem cellsPair : Try.prog.cellsOf 28 = 2 := by kernel_rfl
theorem cellsB : Try.prog.cellsOf 26 = 1 := by kernel_rfl
theorem cellsN : Try.prog.cellsOf 23 = 1 := by kernel_rfl
theorem came_slice {n : Nat} {v : Value} {y : DataW H × List MemPlace} (h : DataW.trod enc Try.prog W 0 (fun _ => true) true n 26 [v] = some y) :
    ∃ A len cap bs, v = .slice A len cap ∧ Came W A len cap bs := by
  rcases open_ints Try.underlying26 Try.underlying5 (by kernel_rfl) h with ⟨hcs, _⟩ | ⟨x, l, c, zs, hcs, _, hl, hm, hz, _, hcell, hwz⟩
  · simp at hcs
    obtain ⟨bs, hb⟩ := came (w := W) (a := none) (len := 0) (cap := 0) (zs := []) (.inl ⟨rfl, rfl, rfl, rfl⟩)
    exact ⟨none, 0, 0, bs, hcs, hb⟩
  · simp at hcs
    obtain ⟨bs, hb⟩ := came (w := W) (a := some x) (len := l) (cap := c) (zs := zs) (.inr ⟨_, rfl, hl, hm, by simpa using hz, hcell, hwz⟩)
    exact ⟨some x, l, c, bs, hcs, hb⟩
theorem u64_of {n : Int} (h : (Lit.int .u64 n).wf = true) : ∃ c : UInt64, n = (c.toNat : Int) := by
  have h2 : IntKind.u64.min ≤ n ∧ n ≤ IntKind.u64.max := by simpa [Lit.wf] using h
  have h3 : 0 ≤ n ∧ n ≤ 18446744073709551615 := h2
  refine ⟨UInt64.ofNat n.toNat, ?_⟩
  simp
  omega
theorem came_pair {n : Nat} {cs : List Value} {y : DataW H × List MemPlace} (h : DataW.trod enc Try.prog W 0 (fun _ => true) true n 28 cs = some y) :
    ∃ x : Pair, cs = [.slice x.A x.n x.c, .int .u64 (x.pr.toNat : Int)] ∧ x.Ok W := by
  obtain ⟨xs, n', rfl, hy, hlen, hxl, hf⟩ := DataW.trod_struct Try.underlying28 h
  rw [cellsPair] at hlen
  obtain ⟨c0, c1, rfl⟩ : ∃ c0 c1, cs = [c0, c1] := by
    match cs, hlen with
    | [c0, c1], _ => exact ⟨c0, c1, rfl⟩
  obtain ⟨y0, y1, rfl⟩ : ∃ y0 y1, xs = [y0, y1] := by
    match xs, hxl with
    | [y0, y1], _ => exact ⟨y0, y1, rfl⟩
  have h0 : DataW.trod enc Try.prog W 0 (fun _ => true) true n' 26 (([c0, c1].drop 0).take (Try.prog.cellsOf 26)) = some y0 := hf 0 _ rfl
  have h1 : DataW.trod enc Try.prog W 0 (fun _ => true) true n' 23 (([c0, c1].drop 1).take (Try.prog.cellsOf 23)) = some y1 := hf 1 _ rfl
  rw [cellsB] at h0
  rw [cellsN] at h1
  obtain ⟨A, bl, bc, bs, e0, hb⟩ := came_slice (v := c0) h0
  obtain ⟨p, e1, _, w1⟩ := DataW.trod_int Try.underlying23 h1
  obtain ⟨p, rfl⟩ := u64_of w1
  simp at e1
  subst e0 e1
  exact ⟨⟨A, bl, bc, bs, p⟩, rfl, hb.hlen, hb.told, Nat.le_trans hb.le hb.hcap⟩
theorem pvals_map (F : Nat → Pair) (n : Nat) : pvals ((List.range n).map F) = ((List.range n).map fun i => [Value.slice (F i).A (F i).n (F i).c, Value.int .u64 ((F i).pr.toNat : Int)]).flatten := by
  induction n with
  | zero => rfl
  | succ n ih =>
    rw [List.range_succ, List.map_append, List.map_append, List.flatten_append, pvals_append, ih]
    rfl
theorem came_pairs {d : DataW H} {p : List MemPlace} (A : Option Addr) (len cap : Nat) (h : DataW.Trod enc Try.prog W 0 (fun _ => true) true 22 (.slice A len cap) d p) :
    ∃ l, PIn W A len cap l := by
  obtain ⟨fuel, hf⟩ := h
  rcases Go.Deep.open_slice Try.underlying22 hf with ⟨hcs, _⟩ | ⟨a, len', cap', m, n, D, Pl, hcs, hb, hl, hm, hmm, hx, hi⟩
  · simp [Value.cells] at hcs
    obtain ⟨rfl, rfl, rfl⟩ := hcs
    exact ⟨[], rfl, Nat.le_refl _, Nat.zero_le _, by simp, .inl rfl, fun _ => rfl⟩
  · simp [Value.cells] at hcs
    obtain ⟨rfl, rfl, rfl⟩ := hcs
    rw [if_pos rfl] at hmm
    subst hmm
    have each : ∀ i, i < m → ∃ x : Pair, x.Ok W ∧ ∀ j (hj : j < 2), W.cell? ((a.add (i * 2)).add j) = [Value.slice x.A x.n x.c, .int .u64 (x.pr.toNat : Int)][j]? := fun i him => by
      obtain ⟨cs', hc, ht'⟩ := hi i him
      obtain ⟨x, rfl, hx⟩ := came_pair ht'
      rw [cellsPair] at hc
      obtain ⟨_, hcl, hat⟩ := World.cells?_some hc
      exact ⟨x, hx, fun j hj => hat j hj⟩
    obtain ⟨F, hF⟩ : ∃ F : Nat → Pair, ∀ i, i < len → (F i).Ok W ∧ ∀ j (hj : j < 2), W.cell? ((a.add (i * 2)).add j) = [Value.slice (F i).A (F i).n (F i).c, .int .u64 ((F i).pr.toNat : Int)][j]? :=
      ⟨fun i => if h : i < m then (each i h).choose else ⟨none, 0, 0, [], 0⟩, fun i h => by
        have h' : i < m := by omega
        simp only [h', dif_pos]
        exact (each i h').choose_spec⟩
    refine ⟨(List.range len).map F, by simp, hl, hm, ?_, ?_, fun e => by cases e⟩
    · intro x hx
      obtain ⟨i, hi2, rfl⟩ := List.mem_map.1 hx
      exact (hF i (by simpa using hi2)).1
    · rcases Nat.eq_zero_or_pos len with h0 | h0
      · left; simp [h0, pvals]
      · have h1 := (hF 0 (by omega)).2 0 (by omega)
        obtain ⟨b, o, spot⟩ := a
        have hspot : spot = none := by simpa [Addr.add] using World.cell?_spot h1
        subst hspot
        refine .inr ⟨b, o, rfl, fun i hi2 => ?_⟩
        rw [length_pvals, List.length_map, List.length_range] at hi2
        have hq : i / 2 < len := by omega
        have h2 := (hF (i / 2) hq).2 (i % 2) (by omega)
        rw [Oct.add_plain, Oct.add_plain, show o + i / 2 * 2 + i % 2 = o + i by omega] at h2
        rw [h2]
        have hl2 : i / 2 < ((List.range len).map F).length := by simpa using hq
        have hg : ((List.range len).map F)[i / 2] = F (i / 2) := by simp
        rcases Nat.mod_two_eq_zero_or_one i with h3 | h3
        · have := pvals_bytes ((List.range len).map F) (i / 2) hl2
          rw [show 2 * (i / 2) = i by omega, hg] at this
          rw [h3, ← List.getElem?_eq_getElem, this]
          rfl
        · have := pvals_print ((List.range len).map F) (i / 2) hl2
          rw [show 2 * (i / 2) + 1 = i by omega, hg] at this
          rw [h3, ← List.getElem?_eq_getElem, this]
          rfl
theorem add_zero' (a : Addr) : a.add 0 = a := by
  unfold Addr.add
  simp
theorem came_blocks {d : DataW H} {p : List MemPlace} (A : Option Addr) (len cap : Nat) (h : DataW.Trod enc Try.prog W 0 (fun _ => true) true 24 (.slice A len cap) d p) :
    ∃ l, BIn W A len cap l := by
  obtain ⟨fuel, hf⟩ := h
  rcases Go.Deep.open_slice Try.underlying24 hf with ⟨hcs, _⟩ | ⟨a, len', cap', m, n, D, Pl, hcs, hb, hl, hm, hmm, hx, hi⟩
  · simp [Value.cells] at hcs
    obtain ⟨rfl, rfl, rfl⟩ := hcs
    exact ⟨[], rfl, Nat.le_refl _, Nat.zero_le _, by simp, .inl rfl, fun _ => rfl⟩
  · simp [Value.cells] at hcs
    obtain ⟨rfl, rfl, rfl⟩ := hcs
    rw [if_pos rfl] at hmm
    subst hmm
    have each : ∀ i, i < m → ∃ x : Part, x.Ok W ∧ W.cell? (a.add i) = some (.slice x.A x.n x.c) := fun i him => by
      obtain ⟨cs', hc, ht'⟩ := hi i him
      rw [cellsB] at hc
      obtain ⟨_, hcl, hat⟩ := World.cells?_some hc
      obtain ⟨v, rfl⟩ : ∃ v, cs' = [v] := by
        match cs', hcl with
        | [v], _ => exact ⟨v, rfl⟩
      obtain ⟨A, bl, bc, bs, rfl, hb⟩ := came_slice ht'
      have := hat 0 (by omega)
      rw [Nat.mul_one] at this
      refine ⟨⟨A, bl, bc, bs⟩, ⟨hb.hlen, hb.told, Nat.le_trans hb.le hb.hcap⟩, ?_⟩
      rw [add_zero' (a.add i)] at this
      exact this
    obtain ⟨F, hF⟩ : ∃ F : Nat → Part, ∀ i, i < len → (F i).Ok W ∧ W.cell? (a.add i) = some (.slice (F i).A (F i).n (F i).c) :=
      ⟨fun i => if h : i < m then (each i h).choose else ⟨none, 0, 0, []⟩, fun i h => by
        have h' : i < m := by omega
        simp only [h', dif_pos]
        exact (each i h').choose_spec⟩
    refine ⟨(List.range len).map F, by simp, hl, hm, ?_, ?_, fun e => by cases e⟩
    · intro x hx
      obtain ⟨i, hi2, rfl⟩ := List.mem_map.1 hx
      exact (hF i (by simpa using hi2)).1
    · rcases Nat.eq_zero_or_pos len with h0 | h0
      · left; simp [h0, bvals]
      · have h1 := (hF 0 (by omega)).2
        obtain ⟨b, o, spot⟩ := a
        have hspot : spot = none := by simpa [Addr.add] using World.cell?_spot h1
        subst hspot
        refine .inr ⟨b, o, rfl, fun i hi2 => ?_⟩
        rw [length_bvals, List.length_map, List.length_range] at hi2
        have h2 := (hF i hi2).2
        rw [Oct.add_plain] at h2
        rw [h2]
        simp [bvals]
end
end Go.Proofs.Ytbhajmecaemafaa.Tb
