/- Operations that came in; a row of words that grows. -/
import Derived.Test.YtlemjegngnfanaaPlY
import Derived.Deep.Slices
namespace Go.Proofs.Ytlemjegngnfanaa.Tl
open Go.RowKit Go.Proofs.Ytlemjegngnfanaa.Oct Go.Proofs.Ytlemjegngnfanaa.Mv Go.Maps Go.ChangeShapes Go.WideShapes Go.ChangeAt
set_option linter.unusedVariables false
section
variable {H : Type} {enc : TypeId × Value → H} {W : World}
theorem cellsOp : Try.prog.cellsOf 45 = 2 := by kernel_rfl
theorem came_op {n : Nat} {cs : List Value} {y : DataW H × List MemPlace} (h : DataW.trod enc Try.prog W 0 (fun _ => true) true n 45 cs = some y) :
    ∃ x : Opr, cs = [.int .u8 (x.what.toNat : Int), .int .i64 x.b] ∧ (Lit.int .i64 x.b).wf = true := by
  obtain ⟨xs, n', rfl, hy, hlen, hxl, hf⟩ := DataW.trod_struct Try.underlying45 h
  rw [cellsOp] at hlen
  obtain ⟨c0, c1, rfl⟩ := two cs hlen
  obtain ⟨y0, y1, rfl⟩ := two xs hxl
  have h0 : DataW.trod enc Try.prog W 0 (fun _ => true) true n' 5 (([c0, c1].drop 0).take (Try.prog.cellsOf 5)) = some y0 := hf 0 _ rfl
  have h1 : DataW.trod enc Try.prog W 0 (fun _ => true) true n' 3 (([c0, c1].drop 1).take (Try.prog.cellsOf 3)) = some y1 := hf 1 _ rfl
  rw [cellsU8] at h0
  rw [cellsI] at h1
  obtain ⟨x, e0, _, w0⟩ := DataW.trod_int Try.underlying5 h0
  obtain ⟨p, e1, _, w1⟩ := DataW.trod_int Try.underlying3 h1
  obtain ⟨x, rfl⟩ := u8_of w0
  simp at e0 e1
  subst e0 e1
  exact ⟨⟨x, p⟩, rfl, w1⟩
theorem came_ops {d : DataW H} {p : List MemPlace} (A : Option Addr) (len cap : Nat) (h : DataW.Trod enc Try.prog W 0 (fun _ => true) true 23 (.slice A len cap) d p) :
    ∃ l, OpsIn W A len cap l := by
  obtain ⟨fuel, hf⟩ := h
  rcases Go.Deep.open_slice Try.underlying23 hf with ⟨hcs, _⟩ | ⟨a, len', cap', m, n, D, Pl, hcs, hb, hl, hm, hmm, hx, hi⟩
  · simp [Value.cells] at hcs
    obtain ⟨rfl, rfl, rfl⟩ := hcs
    exact ⟨[], rfl, by simp, .inl rfl, Nat.le_refl _, Nat.zero_le _⟩
  · simp [Value.cells] at hcs
    obtain ⟨rfl, rfl, rfl⟩ := hcs
    rw [if_pos rfl] at hmm
    subst hmm
    have each : ∀ i, i < m → ∃ x : Opr, (Lit.int .i64 x.b).wf = true ∧ ∀ j (hj : j < 2), W.cell? ((a.add (i * 2)).add j) = [Value.int .u8 (x.what.toNat : Int), .int .i64 x.b][j]? := fun i him => by
      obtain ⟨cs', hc, ht'⟩ := hi i him
      obtain ⟨x, rfl, hx⟩ := came_op ht'
      rw [cellsOp] at hc
      obtain ⟨_, hcl, hat⟩ := World.cells?_some hc
      exact ⟨x, hx, fun j hj => hat j hj⟩
    obtain ⟨F, hF⟩ : ∃ F : Nat → Opr, ∀ i, i < len → (Lit.int .i64 (F i).b).wf = true ∧ ∀ j (hj : j < 2), W.cell? ((a.add (i * 2)).add j) = [Value.int .u8 ((F i).what.toNat : Int), .int .i64 (F i).b][j]? :=
      ⟨fun i => if h : i < m then (each i h).choose else ⟨0, 0⟩, fun i h => by
        have h' : i < m := by omega
        simp only [h', dif_pos]
        exact (each i h').choose_spec⟩
    refine ⟨(List.range len).map F, by simp, ?_, ?_, hl, hm⟩
    · intro x hx
      obtain ⟨i, hi2, rfl⟩ := List.mem_map.1 hx
      exact (hF i (by simpa using hi2)).1
    · rcases Nat.eq_zero_or_pos len with h0 | h0
      · left; simp [h0]
      · have h1 := (hF 0 (by omega)).2 0 (by omega)
        obtain ⟨b, o, spot⟩ := a
        have hspot : spot = none := by simpa [Addr.add] using World.cell?_spot h1
        subst hspot
        refine .inr ⟨b, o, rfl, fun i hi2 => ?_⟩
        have hil : i < len := by simpa using hi2
        have h2 := (hF i hil).2
        simp only [List.getElem_map, List.getElem_range]
        have ha : ∀ j, ((Addr.mk b o none).add (i * 2)).add j = ⟨b, o + i * 2 + j, none⟩ := fun j => by rw [Oct.add_plain, Oct.add_plain]
        exact ⟨by simpa [ha] using h2 0 (by omega), by simpa [ha] using h2 1 (by omega)⟩
end
end Go.Proofs.Ytlemjegngnfanaa.Tl
namespace Go.Proofs.Ytlemjegngnfanaa.Pl
open Go.RowKit Go.Proofs.Ytlemjegngnfanaa.Oct Go.Proofs.Ytlemjegngnfanaa.Mv Go.Proofs.Ytlemjegngnfanaa.Tl Go.Proofs.Ytlemjegngnfanaa.Pk Go.Maps
set_option linter.unusedVariables false

/-- A row of words that the call owns. -/
def OwnU (w : World) (base : Nat) (v : Value) (l : List UInt16) : Prop := w.ownsRow base 22 1 v l.length (nums l)
theorem ownU_nil (w : World) (base : Nat) : OwnU w base (.slice none 0 0) [] := ⟨rfl, .inl ⟨rfl, rfl⟩⟩
theorem app_words {w : World} {base : Nat} {v : Value} {m l : List UInt16} {b o c : Nat} (h : OwnU w base v m) (hs : HasV w b o (nums l)) (hl : m.length + l.length ≤ 8192) (hb : base ≤ w.heap.size) (ty : TypeId) :
    ∃ v' w', (Builtin.append_ #[74, 74] ty #[v, .slice (some ⟨b, o, none⟩) l.length c]).run Try.prog w = .ok v' w' ∧ OwnU w' base v' (m ++ l) ∧ Below base w w' := by
  obtain ⟨i0, hi, hz0, hz1, hz2⟩ := info_parts word_info
  obtain ⟨v', w', hr, ho, hg, _⟩ := run_append_own (P := Try.prog) w base 74 ty 22 i0 (.int .u16 0) 1 2 Try.underlying74 hi hz0 hz1 hz2 rfl (by omega) v m.length (nums m) h ⟨b, o, none⟩ l.length c (nums l) (by rw [length_nums, Nat.mul_one])
    (fun j u hj => by
      rw [add_plain]
      exact hs.cellAt hj)
    (fun u hu => by simp [nums] at hu; obtain ⟨c, _, rfl⟩ := hu; rfl) (by unfold maxLen; omega) (by omega) hb
  refine ⟨v', w', hr, ?_, ⟨hg.os, hg.tape, hg.output, hg.size, fun k hk => hg.block k (by omega) (fun e => ?_)⟩⟩
  · unfold OwnU
    rw [List.length_append, show nums (m ++ l) = nums m ++ nums l by simp [nums]]
    exact ho
  · have := (World.ownsRow.lt h k e.symm).1
    omega
theorem OwnU.below {w w' : World} {base : Nat} {v : Value} {l : List UInt16} (h : OwnU w base v l) (k : Below w.heap.size w w') : OwnU w' base v l := by
  refine ⟨h.1, ?_⟩
  rcases h.2 with hn | ⟨g, cap, cur, rfl, hb, hgg, rest⟩
  · exact .inl hn
  · refine .inr ⟨g, cap, cur, rfl, hb, ?_, rest⟩
    rw [k.block g (Array.getElem?_eq_some_iff.1 hgg).1]
    exact hgg
theorem OwnU.slice {w : World} {base : Nat} {v : Value} {l : List UInt16} (h : OwnU w base v l) : ∃ A cap, v = .slice A l.length cap ∧ ToldV w A (nums l) := by
  rcases h.2 with ⟨rfl, e⟩ | ⟨g, cap, cur, rfl, hb, hgg, rest⟩
  · exact ⟨none, 0, by rw [e], .inl (by simp [nums, List.eq_nil_of_length_eq_zero e])⟩
  · refine ⟨_, cap, rfl, .inr ⟨g, 0, rfl, fun i hi => ?_⟩⟩
    rw [length_nums] at hi
    rw [Nat.zero_add, World.ownsRow.cellAt h i (by omega)]
    simp [nums, hi]
/-- The first k counts. -/
def allc (s : St) (k : Nat) : List UInt16 := (List.range k).map s.cnt
theorem length_allc (s : St) (k : Nat) : (allc s k).length = k := by simp [allc]
theorem allc_add (s : St) (k m : Nat) : allc s k ++ (List.range m).map (fun j => s.cnt (k + j)) = allc s (k + m) := by
  unfold allc
  rw [List.range_add, List.map_append, List.map_map]
  rfl
theorem allc_part (s : St) {p : Nat} (hp : p < pg s.n) : allc s (p * 61) ++ part s p = allc s (min ((p + 1) * 61) s.n) := by
  unfold part
  rw [allc_add]
  congr 1
  have := pages_nat_ge hp
  unfold many
  omega
theorem allc_at (s : St) {k i : Nat} (h : i < k) : (nums (allc s k))[i]? = some (num (s.cnt i)) := by
  simp [nums, allc, h]
end Go.Proofs.Ytlemjegngnfanaa.Pl
