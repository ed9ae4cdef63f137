/- Operations that come in; done: an operation, its block among those there are. -/
import Derived.Test.YtigmgaedpdeleaaTlK
import Derived.Lib.MinMax
import Derived.Deep.Slices
namespace Go.Proofs.Ytigmgaedpdeleaa.Tl
open Go.RowKit Go.Proofs.Ytigmgaedpdeleaa.Oct Go.Proofs.Ytigmgaedpdeleaa.Mv Go.Maps Go.ChangeShapes Go.WideShapes Go.ChangeAt
set_option linter.unusedVariables false

/-- An operation that came in: what, and its block. -/
structure Opr where
  what : UInt8
  b : Int
def Opr.val (x : Opr) : Value := .agg #[.int .u8 (x.what.toNat : Int), .int .i64 x.b]
/-- Its two cells. -/
structure Opr.Lies (w : World) (b o : Nat) (x : Opr) : Prop where
  c0 : w.cell? ⟨b, o, none⟩ = some (.int .u8 (x.what.toNat : Int))
  c1 : w.cell? ⟨b, o + 1, none⟩ = some (.int .i64 x.b)
structure OpsIn (w : World) (A : Option Addr) (len cap : Nat) (l : List Opr) : Prop where
  hlen : l.length = len
  fits : ∀ x ∈ l, (Lit.int .i64 x.b).wf = true
  lies : l = [] ∨ ∃ b o, A = some ⟨b, o, none⟩ ∧ ∀ i (h : i < l.length), l[i].Lies w b (o + i * 2)
  le : len ≤ cap
  cap : cap ≤ maxLen
theorem Opr.Lies.below {w w' : World} {b o : Nat} {x : Opr} (h : x.Lies w b o) (k : Below w.heap.size w w') : x.Lies w' b o := by
  have hl := World.block_lt_of_cell? w _ h.c0
  exact ⟨(k.cell hl).trans h.c0, (k.cell (p := ⟨b, o + 1, none⟩) hl).trans h.c1⟩
theorem OpsIn.below {w w' : World} {A : Option Addr} {len cap : Nat} {l : List Opr} (h : OpsIn w A len cap l) (k : Below w.heap.size w w') : OpsIn w' A len cap l :=
  ⟨h.hlen, h.fits, h.lies.imp id (fun ⟨b, o, e, q⟩ => ⟨b, o, e, fun i hi => (q i hi).below k⟩), h.le, h.cap⟩
theorem OpsIn.at {w : World} {A : Option Addr} {len cap k : Nat} {l : List Opr} (h : OpsIn w A len cap l) (hk : k < len) :
    ∃ b o x, A = some ⟨b, o, none⟩ ∧ l[k]? = some x ∧ x.Lies w b (o + k * 2) ∧ (Lit.int .i64 x.b).wf = true := by
  have hl := h.hlen
  rcases h.lies with e | ⟨b, o, e, q⟩
  · subst e; simp at hl; omega
  · have hk2 : k < l.length := by omega
    exact ⟨b, o, l[k], e, by simp [hk2], q k hk2, h.fits _ (List.getElem_mem _)⟩

section
variable {H : Type} {enc : TypeId × Value → H} {W : World}
theorem cellsOp : Try.prog.cellsOf 36 = 2 := by kernel_rfl
theorem cellsU8 : Try.prog.cellsOf 5 = 1 := by kernel_rfl
theorem cellsI : Try.prog.cellsOf 3 = 1 := by kernel_rfl
theorem two {α : Type} : ∀ (l : List α), l.length = 2 → ∃ c0 c1, l = [c0, c1]
  | [c0, c1], _ => ⟨c0, c1, rfl⟩
  | [], h | [_], h => by simp at h
  | _ :: _ :: _ :: _, h => by simp at h
theorem came_op {n : Nat} {cs : List Value} {y : DataW H × List MemPlace} (h : DataW.trod enc Try.prog W 0 (fun _ => true) true n 36 cs = some y) :
    ∃ x : Opr, cs = [.int .u8 (x.what.toNat : Int), .int .i64 x.b] ∧ (Lit.int .i64 x.b).wf = true := by
  obtain ⟨xs, n', rfl, hy, hlen, hxl, hf⟩ := DataW.trod_struct Try.underlying36 h
  rw [cellsOp] at hlen
  obtain ⟨c0, c1, rfl⟩ := two cs hlen
  obtain ⟨y0, y1, rfl⟩ := two xs hxl
  have h0 : DataW.trod enc Try.prog W 0 (fun _ => true) true n' 5 (([c0, c1].drop 0).take (Try.prog.cellsOf 5)) = some y0 := hf 0 _ rfl
  have h1 : DataW.trod enc Try.prog W 0 (fun _ => true) true n' 3 (([c0, c1].drop 1).take (Try.prog.cellsOf 3)) = some y1 := hf 1 _ rfl
  rw [cellsU8] at h0
  rw [cellsI] at h1
  obtain ⟨x, e0, _, w0⟩ := DataW.trod_int Try.underlying5 h0
  obtain ⟨p, e1, _, w1⟩ := DataW.trod_int Try.underlying3 h1
  obtain ⟨x, rfl⟩ := u8_of w0
  simp at e0 e1
  subst e0 e1
  exact ⟨⟨x, p⟩, rfl, w1⟩
theorem came_ops {d : DataW H} {p : List MemPlace} (A : Option Addr) (len cap : Nat) (h : DataW.Trod enc Try.prog W 0 (fun _ => true) true 23 (.slice A len cap) d p) :
    ∃ l, OpsIn W A len cap l := by
  obtain ⟨fuel, hf⟩ := h
  rcases Go.Deep.open_slice Try.underlying23 hf with ⟨hcs, _⟩ | ⟨a, len', cap', m, n, D, Pl, hcs, hb, hl, hm, hmm, hx, hi⟩
  · simp [Value.cells] at hcs
    obtain ⟨rfl, rfl, rfl⟩ := hcs
    exact ⟨[], rfl, by simp, .inl rfl, Nat.le_refl _, Nat.zero_le _⟩
  · simp [Value.cells] at hcs
    obtain ⟨rfl, rfl, rfl⟩ := hcs
    rw [if_pos rfl] at hmm
    subst hmm
    have each : ∀ i, i < m → ∃ x : Opr, (Lit.int .i64 x.b).wf = true ∧ ∀ j (hj : j < 2), W.cell? ((a.add (i * 2)).add j) = [Value.int .u8 (x.what.toNat : Int), .int .i64 x.b][j]? := fun i him => by
      obtain ⟨cs', hc, ht'⟩ := hi i him
      obtain ⟨x, rfl, hx⟩ := came_op ht'
      rw [cellsOp] at hc
      obtain ⟨_, hcl, hat⟩ := World.cells?_some hc
      exact ⟨x, hx, fun j hj => hat j hj⟩
    obtain ⟨F, hF⟩ : ∃ F : Nat → Opr, ∀ i, i < len → (Lit.int .i64 (F i).b).wf = true ∧ ∀ j (hj : j < 2), W.cell? ((a.add (i * 2)).add j) = [Value.int .u8 ((F i).what.toNat : Int), .int .i64 (F i).b][j]? :=
      ⟨fun i => if h : i < m then (each i h).choose else ⟨0, 0⟩, fun i h => by
        have h' : i < m := by omega
        simp only [h', dif_pos]
        exact (each i h').choose_spec⟩
    refine ⟨(List.range len).map F, by simp, ?_, ?_, hl, hm⟩
    · intro x hx
      obtain ⟨i, hi2, rfl⟩ := List.mem_map.1 hx
      exact (hF i (by simpa using hi2)).1
    · rcases Nat.eq_zero_or_pos len with h0 | h0
      · left; simp [h0]
      · have h1 := (hF 0 (by omega)).2 0 (by omega)
        obtain ⟨b, o, spot⟩ := a
        have hspot : spot = none := by simpa [Addr.add] using World.cell?_spot h1
        subst hspot
        refine .inr ⟨b, o, rfl, fun i hi2 => ?_⟩
        have hil : i < len := by simpa using hi2
        have h2 := (hF i hil).2
        simp only [List.getElem_map, List.getElem_range]
        have ha : ∀ j, ((Addr.mk b o none).add (i * 2)).add j = ⟨b, o + i * 2 + j, none⟩ := fun j => by rw [Oct.add_plain, Oct.add_plain]
        exact ⟨by simpa [ha] using h2 0 (by omega), by simpa [ha] using h2 1 (by omega)⟩
end
end Go.Proofs.Ytigmgaedpdeleaa.Tl
