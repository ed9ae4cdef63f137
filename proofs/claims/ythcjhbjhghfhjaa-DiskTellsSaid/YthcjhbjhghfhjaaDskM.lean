/- Plain mathematics of a disk: what a block says, what is laid over it. No function of the program is named. -/
import Derived.Test.YthcjhbjhghfhjaaDskB
namespace Go.Proofs.Ythcjhbjhghfhjaa.Dsk
open Go.RowKit Go.Proofs.Ythcjhbjhghfhjaa.Oct
set_option linter.unusedVariables false

/-- What the last write of a block has. -/
def last? (W : List (Nat × List UInt8)) (at_ : Nat) : Option (List UInt8) := W.foldl (fun o x => if x.1 = at_ then some x.2 else o) none
theorem last?_nil (p : Nat) : last? [] p = none := rfl
theorem last?_snoc (W : List (Nat × List UInt8)) (x : Nat × List UInt8) (p : Nat) : last? (W ++ [x]) p = if x.1 = p then some x.2 else last? W p := by simp [last?, List.foldl_append]
def St.stand (s : St) (p : Nat) : List UInt8 := (s.B.drop (p * 128)).take 128
def St.says (s : St) (p : Nat) : List UInt8 := (last? s.W p).getD (s.stand p)
theorem take_snoc {α : Type} (W : List α) (k : Nat) (h : k < W.length) : W.take (k + 1) = W.take k ++ [W[k]] := by
  rw [List.take_succ_eq_append_getElem h]

theorem length_wcells (W : List (Nat × List UInt8)) (h : ∀ x, x ∈ W → x.2.length = 128) : (wcells W).length = W.length * 129 := by
  induction W with
  | nil => rfl
  | cons x W ih =>
    have h1 := h x (by simp)
    have h2 := ih (fun y hy => h y (by simp [hy]))
    simp only [wcells, List.flatMap_cons, List.length_append, List.length_cons, length_vals] at h2 ⊢
    omega
theorem wcells_at (W : List (Nat × List UInt8)) (h : ∀ x, x ∈ W → x.2.length = 128) (i : Nat) (hi : i < W.length) (j : Nat) (hj : j < 129) :
    (wcells W)[i * 129 + j]? = (Value.int .i64 (W[i].1 : Int) :: vals W[i].2)[j]? := by
  induction W generalizing i with
  | nil => simp at hi
  | cons x W ih =>
    have h1 := h x (by simp)
    have hl : (Value.int .i64 (x.1 : Int) :: vals x.2).length = 129 := by simp [length_vals, h1]
    show ((Value.int .i64 (x.1 : Int) :: vals x.2) ++ wcells W)[i * 129 + j]? = _
    cases i with
    | zero =>
      rw [List.getElem?_append_left (by omega)]
      simp
    | succ i =>
      rw [List.getElem?_append_right (by omega), hl, show (i + 1) * 129 + j - 129 = i * 129 + j by omega]
      exact ih (fun y hy => h y (by simp [hy])) i (by simpa using hi)
theorem wcells_snoc (W : List (Nat × List UInt8)) (x : Nat × List UInt8) : wcells (W ++ [x]) = wcells W ++ (.int .i64 (x.1 : Int) :: vals x.2) := by simp [wcells]

section
variable {w w' : World} {base a bb bc : Nat} {wv : Value} {s s' : St}
theorem At.wform (h : At w base a bb bc wv s) : ∃ A cap, wv = .slice A s.W.length cap ∧ s.W.length ≤ cap ∧ cap ≤ maxLen ∧ (0 < s.W.length → ∃ g, A = some ⟨g, 0, none⟩ ∧ wv.ownBlock = some g) := by
  rcases h.waits.2 with ⟨h1, h0⟩ | ⟨g, cap, cur, h1, _, _, h2, h3, _⟩
  · exact ⟨none, 0, by rw [h1, h0], by omega, Nat.zero_le _, fun h => by omega⟩
  · exact ⟨_, cap, h1, h2, h3, fun _ => ⟨g, rfl, by rw [h1]; rfl⟩⟩
theorem At.wlen (h : At w base a bb bc wv s) : ∀ x, x ∈ s.W → x.2.length = 128 := fun x hx => (h.ok.wait x hx).2
theorem At.wat (h : At w base a bb bc wv s) {g cap : Nat} (hv : wv = .slice (some ⟨g, 0, none⟩) s.W.length cap) (i : Nat) (hi : i < s.W.length) :
    w.cell? ⟨g, i * 129, none⟩ = some (.int .i64 (s.W[i].1 : Int)) ∧ Has w g (i * 129 + 1) s.W[i].2 := by
  have hb : wv.ownBlock = some g := by rw [hv]; rfl
  have key : ∀ j, j < 129 → w.cell? ⟨g, i * 129 + j, none⟩ = (Value.int .i64 (s.W[i].1 : Int) :: vals s.W[i].2)[j]? := fun j hj => by
    have h1 := wcells_at s.W h.wlen i hi j hj
    have hl : j < (Value.int .i64 (s.W[i].1 : Int) :: vals s.W[i].2).length := by
      have := h.wlen s.W[i] (List.getElem_mem hi)
      simp [length_vals]; omega
    rw [List.getElem?_eq_getElem hl] at h1 ⊢
    have := h.waits.cells hb _ _ h1
    rw [add_plain, Nat.zero_add] at this
    exact this
  refine ⟨key 0 (by omega), fun j hj => ?_⟩
  have h2 := h.wlen s.W[i] (List.getElem_mem hi)
  have := key (1 + j) (by omega)
  rw [← Nat.add_assoc] at this
  rw [this, Nat.add_comm 1 j]
  simp [vals, hj]
theorem At.bat (h : At w base a bb bc wv s) (p : Nat) (hp : p < s.n) : Has w bb (p * 128) (s.stand p) := by
  intro j hj
  have hl : j < 128 := by simp [St.stand] at hj; omega
  have hB := h.ok.len
  have h1 : (vals s.B)[p * 128 + j]? = some (.int .u8 (((s.stand p)[j]'hj).toNat : Int)) := by
    have : p * 128 + j < s.B.length := by omega
    simp [vals, this, St.stand]
  have := h.blocks.cells (g := bb) rfl _ _ h1
  rw [add_plain, Nat.zero_add] at this
  exact this
end
end Go.Proofs.Ythcjhbjhghfhjaa.Dsk
