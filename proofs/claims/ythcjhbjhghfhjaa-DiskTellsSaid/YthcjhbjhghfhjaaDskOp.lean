/- What the frame of DiskTells hands to its walk: operations that come in. -/
import Derived.Test.YthcjhbjhghfhjaaDskR
import Derived.Deep.Slices
namespace Go.Proofs.Ythcjhbjhghfhjaa.Dsk
open Go.RowKit Go.Proofs.Ythcjhbjhghfhjaa.Oct Go.ChangeShapes Go.WideShapes Go.ChangeAt
set_option linter.unusedVariables false

/-- An operation that came in. -/
structure Opr where
  what : UInt8
  place : Int
  ba : Option Addr
  bl : Nat
  bc : Nat
  bs : List UInt8
  ka : Option Addr
  kl : Nat
  kc : Nat
  ks : List Bool
  torn : Int
  cut : Int
structure Opr.Fits (w : World) (x : Opr) : Prop where
  came : Came w x.ba x.bl x.bc x.bs
  keep : KeepIn w x.ka x.kl x.kc x.ks
  place : (Lit.int .i64 x.place).wf = true
  torn : (Lit.int .i64 x.torn).wf = true
  cut : (Lit.int .i64 x.cut).wf = true
/-- Its six cells. -/
structure Opr.Lies (w : World) (b o : Nat) (x : Opr) : Prop where
  c0 : w.cell? ⟨b, o, none⟩ = some (.int .u8 (x.what.toNat : Int))
  c1 : w.cell? ⟨b, o + 1, none⟩ = some (.int .i64 x.place)
  c2 : w.cell? ⟨b, o + 2, none⟩ = some (.slice x.ba x.bl x.bc)
  c3 : w.cell? ⟨b, o + 3, none⟩ = some (.slice x.ka x.kl x.kc)
  c4 : w.cell? ⟨b, o + 4, none⟩ = some (.int .i64 x.torn)
  c5 : w.cell? ⟨b, o + 5, none⟩ = some (.int .i64 x.cut)
structure OpsIn (w : World) (A : Option Addr) (len cap : Nat) (l : List Opr) : Prop where
  hlen : l.length = len
  fits : ∀ x ∈ l, x.Fits w
  lies : l = [] ∨ ∃ b o, A = some ⟨b, o, none⟩ ∧ ∀ i (h : i < l.length), l[i].Lies w b (o + i * 6)
  le : len ≤ cap
  cap : cap ≤ maxLen

section
variable {H : Type} {enc : TypeId × Value → H} {W : World}
theorem cellsOp : Try.prog.cellsOf 39 = 6 := by kernel_rfl
theorem cellsB : Try.prog.cellsOf 33 = 1 := by kernel_rfl
theorem cellsU8 : Try.prog.cellsOf 5 = 1 := by kernel_rfl
theorem cellsI : Try.prog.cellsOf 3 = 1 := by kernel_rfl
theorem cellsF : Try.prog.cellsOf 35 = 1 := by kernel_rfl
theorem came_slice {n : Nat} {v : Value} {y : DataW H × List MemPlace} (h : DataW.trod enc Try.prog W 0 (fun _ => true) true n 33 [v] = some y) :
    ∃ A len cap bs, v = .slice A len cap ∧ Came W A len cap bs := by
  rcases open_ints Try.underlying33 Try.underlying5 (by kernel_rfl) h with ⟨hcs, _⟩ | ⟨x, l, c, zs, hcs, _, hl, hm, hz, _, hcell, hwz⟩
  · simp at hcs
    obtain ⟨bs, hb⟩ := came (w := W) (a := none) (len := 0) (cap := 0) (zs := []) (.inl ⟨rfl, rfl, rfl, rfl⟩)
    exact ⟨none, 0, 0, bs, hcs, hb⟩
  · simp at hcs
    obtain ⟨bs, hb⟩ := came (w := W) (a := some x) (len := l) (cap := c) (zs := zs) (.inr ⟨_, rfl, hl, hm, by simpa using hz, hcell, hwz⟩)
    exact ⟨some x, l, c, bs, hcs, hb⟩
theorem six {α : Type} : ∀ (l : List α), l.length = 6 → ∃ c0 c1 c2 c3 c4 c5, l = [c0, c1, c2, c3, c4, c5]
  | [c0, c1, c2, c3, c4, c5], _ => ⟨c0, c1, c2, c3, c4, c5, rfl⟩
  | [], h | [_], h | [_, _], h | [_, _, _], h | [_, _, _, _], h | [_, _, _, _, _], h => by simp at h
  | _ :: _ :: _ :: _ :: _ :: _ :: _ :: _, h => by simp at h
theorem four {α : Type} : ∀ (l : List α), l.length = 4 → ∃ c0 c1 c2 c3, l = [c0, c1, c2, c3]
  | [c0, c1, c2, c3], _ => ⟨c0, c1, c2, c3, rfl⟩
  | [], h | [_], h | [_, _], h | [_, _, _], h => by simp at h
  | _ :: _ :: _ :: _ :: _ :: _, h => by simp at h
theorem came_op {n : Nat} {cs : List Value} {y : DataW H × List MemPlace} (h : DataW.trod enc Try.prog W 0 (fun _ => true) true n 39 cs = some y) :
    ∃ x : Opr, cs = [.int .u8 (x.what.toNat : Int), .int .i64 x.place, .slice x.ba x.bl x.bc, .slice x.ka x.kl x.kc, .int .i64 x.torn, .int .i64 x.cut] ∧ x.Fits W := by
  obtain ⟨xs, n', rfl, hy, hlen, hxl, hf⟩ := DataW.trod_struct Try.underlying39 h
  rw [cellsOp] at hlen
  obtain ⟨c0, c1, c2, c3, c4, c5, rfl⟩ := six cs hlen
  obtain ⟨y0, y1, y2, y3, rfl⟩ := four xs hxl
  have h0 : DataW.trod enc Try.prog W 0 (fun _ => true) true n' 5 (([c0, c1, c2, c3, c4, c5].drop 0).take (Try.prog.cellsOf 5)) = some y0 := hf 0 _ rfl
  have h1 : DataW.trod enc Try.prog W 0 (fun _ => true) true n' 3 (([c0, c1, c2, c3, c4, c5].drop 1).take (Try.prog.cellsOf 3)) = some y1 := hf 1 _ rfl
  have h2 : DataW.trod enc Try.prog W 0 (fun _ => true) true n' 33 (([c0, c1, c2, c3, c4, c5].drop 2).take (Try.prog.cellsOf 33)) = some y2 := hf 2 _ rfl
  have h3 : DataW.trod enc Try.prog W 0 (fun _ => true) true n' 37 (([c0, c1, c2, c3, c4, c5].drop 3).take (Try.prog.cellsOf 37)) = some y3 := hf 3 _ rfl
  rw [cellsU8] at h0
  rw [cellsI] at h1
  rw [cellsB] at h2
  rw [cellsCrash] at h3
  obtain ⟨z0, z1, z2, m, e, _, k0, k1, k2⟩ := Go.Deep.trod_struct3 Try.underlying37 h3
  have k0' : DataW.trod enc Try.prog W 0 (fun _ => true) true m 35 (([c3, c4, c5].drop 0).take (Try.prog.cellsOf 35)) = some z0 := k0
  have k1' : DataW.trod enc Try.prog W 0 (fun _ => true) true m 3 (([c3, c4, c5].drop 1).take (Try.prog.cellsOf 3)) = some z1 := k1
  have k2' : DataW.trod enc Try.prog W 0 (fun _ => true) true m 3 (([c3, c4, c5].drop 2).take (Try.prog.cellsOf 3)) = some z2 := k2
  rw [cellsF] at k0'
  rw [cellsI] at k1' k2'
  obtain ⟨x, e0, _, w0⟩ := DataW.trod_int Try.underlying5 h0
  obtain ⟨p, e1, _, w1⟩ := DataW.trod_int Try.underlying3 h1
  obtain ⟨A, bl, bc, bs, e2, hb⟩ := came_slice (v := c2) h2
  obtain ⟨KA, kl, kc, ks, e3, hk⟩ := came_keep (v := c3) k0'
  obtain ⟨torn, e4, _, w4⟩ := DataW.trod_int Try.underlying3 k1'
  obtain ⟨cut, e5, _, w5⟩ := DataW.trod_int Try.underlying3 k2'
  obtain ⟨x, rfl⟩ := u8_of w0
  simp at e0 e1 e4 e5
  subst e0 e1 e2 e3 e4 e5
  exact ⟨⟨x, p, A, bl, bc, bs, KA, kl, kc, ks, torn, cut⟩, rfl, hb, hk, w1, w4, w5⟩
theorem came_ops {d : DataW H} {p : List MemPlace} (A : Option Addr) (len cap : Nat) (h : DataW.Trod enc Try.prog W 0 (fun _ => true) true 22 (.slice A len cap) d p) :
    ∃ l, OpsIn W A len cap l := by
  obtain ⟨fuel, hf⟩ := h
  rcases Go.Deep.open_slice Try.underlying22 hf with ⟨hcs, _⟩ | ⟨a, len', cap', m, n, D, Pl, hcs, hb, hl, hm, hmm, hx, hi⟩
  · simp [Value.cells] at hcs
    obtain ⟨rfl, rfl, rfl⟩ := hcs
    exact ⟨[], rfl, by simp, .inl rfl, Nat.le_refl _, Nat.zero_le _⟩
  · simp [Value.cells] at hcs
    obtain ⟨rfl, rfl, rfl⟩ := hcs
    rw [if_pos rfl] at hmm
    subst hmm
    have each : ∀ i, i < m → ∃ x : Opr, x.Fits W ∧ ∀ j (hj : j < 6), W.cell? ((a.add (i * 6)).add j) = [Value.int .u8 (x.what.toNat : Int), .int .i64 x.place, .slice x.ba x.bl x.bc, .slice x.ka x.kl x.kc, .int .i64 x.torn, .int .i64 x.cut][j]? := fun i him => by
      obtain ⟨cs', hc, ht'⟩ := hi i him
      obtain ⟨x, rfl, hx⟩ := came_op ht'
      rw [cellsOp] at hc
      obtain ⟨_, hcl, hat⟩ := World.cells?_some hc
      exact ⟨x, hx, fun j hj => hat j hj⟩
    obtain ⟨F, hF⟩ : ∃ F : Nat → Opr, ∀ i, i < len → (F i).Fits W ∧ ∀ j (hj : j < 6), W.cell? ((a.add (i * 6)).add j) = [Value.int .u8 ((F i).what.toNat : Int), .int .i64 (F i).place, .slice (F i).ba (F i).bl (F i).bc, .slice (F i).ka (F i).kl (F i).kc, .int .i64 (F i).torn, .int .i64 (F i).cut][j]? :=
      ⟨fun i => if h : i < m then (each i h).choose else ⟨0, 0, none, 0, 0, [], none, 0, 0, [], 0, 0⟩, fun i h => by
        have h' : i < m := by omega
        simp only [h', dif_pos]
        exact (each i h').choose_spec⟩
    refine ⟨(List.range len).map F, by simp, ?_, ?_, hl, hm⟩
    · intro x hx
      obtain ⟨i, hi2, rfl⟩ := List.mem_map.1 hx
      exact (hF i (by simpa using hi2)).1
    · rcases Nat.eq_zero_or_pos len with h0 | h0
      · left; simp [h0]
      · have h1 := (hF 0 (by omega)).2 0 (by omega)
        obtain ⟨b, o, spot⟩ := a
        have hspot : spot = none := by simpa [Addr.add] using World.cell?_spot h1
        subst hspot
        refine .inr ⟨b, o, rfl, fun i hi2 => ?_⟩
        have hil : i < len := by simpa using hi2
        have h2 := (hF i hil).2
        simp only [List.getElem_map, List.getElem_range]
        have ha : ∀ j, ((Addr.mk b o none).add (i * 6)).add j = ⟨b, o + i * 6 + j, none⟩ := fun j => by rw [Oct.add_plain, Oct.add_plain]
        exact ⟨by simpa [ha] using h2 0 (by omega), by simpa [ha] using h2 1 (by omega), by simpa [ha] using h2 2 (by omega), by simpa [ha] using h2 3 (by omega), by simpa [ha] using h2 4 (by omega), by simpa [ha] using h2 5 (by omega)⟩
end
end Go.Proofs.Ythcjhbjhghfhjaa.Dsk
