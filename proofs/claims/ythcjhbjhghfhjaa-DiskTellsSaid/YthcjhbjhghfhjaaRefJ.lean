/- The reference's Crash: what is laid, in lengths; texts that are cut and joined; slices that stay. -/
import Derived.Test.YthcjhbjhghfhjaaRefH
namespace Go.Proofs.Ythcjhbjhghfhjaa.Dsk
open Go.RowKit Go.Proofs.Ythcjhbjhghfhjaa.Oct
set_option linter.unusedVariables false

/-- All texts are blocks. -/
def Rf.Whole (r : Rf) : Prop := (∀ x ∈ r.came, x.2.length = 128) ∧ ∀ x ∈ r.waits, x.2.length = 128
theorem last?_mem (l : List (Nat × List UInt8)) (p : Nat) (t : List UInt8) (h : last? l p = some t) : ∃ x ∈ l, x.2 = t := by
  induction l using snoc_ind with
  | h0 => simp [last?] at h
  | h1 l a ih =>
    rw [last?_snoc] at h
    by_cases hp : a.1 = p
    · rw [if_pos hp] at h
      exact ⟨a, by simp, Option.some.inj h⟩
    · rw [if_neg hp] at h
      obtain ⟨x, hx, e⟩ := ih h
      exact ⟨x, by simp [hx], e⟩
theorem stands_len (r : Rf) (h : ∀ x ∈ r.came, x.2.length = 128) (p : Nat) : (r.stands p).length = 128 := by
  unfold Rf.stands
  cases hl : last? r.came p with
  | none => simp [zeros]
  | some t =>
    obtain ⟨x, hx, e⟩ := last?_mem _ _ _ hl
    have := h x hx
    rw [e] at this
    simpa using this
theorem rlaid_whole (r : Rf) (h : r.Whole) (f : Nat → Nat) (hf : ∀ i, f i ≤ 128) (k : Nat) : ∀ x ∈ (rlaid r f k).came, x.2.length = 128 := by
  induction k with
  | zero => exact h.1
  | succ k ih =>
    unfold rlaid
    cases hx : r.waits[k]? with
    | none => exact ih
    | some x =>
      intro y hy
      simp only [List.mem_append, List.mem_singleton] at hy
      rcases hy with hy | rfl
      · exact ih y hy
      · have h1 := h.2 x (List.mem_of_getElem? hx)
        have h2 := stands_len (rlaid r f k) ih x.1
        have := hf k
        simp
        omega
theorem rlaid_count (r : Rf) (f : Nat → Nat) (k : Nat) (h : k ≤ r.waits.length) : (rlaid r f k).came.length = r.came.length + k := by
  induction k with
  | zero => rfl
  | succ k ih =>
    unfold rlaid
    rw [List.getElem?_eq_getElem (by omega)]
    simp [ih (by omega)]
    omega
theorem rlaid_step (r : Rf) (f : Nat → Nat) (k : Nat) (h : k < r.waits.length) : rlaid r f (k + 1) = { rlaid r f k with came := (rlaid r f k).came ++ [(r.waits[k].1, r.waits[k].2.take (f k) ++ ((rlaid r f k).stands r.waits[k].1).drop (f k))] } := by
  conv => lhs; unfold rlaid
  rw [List.getElem?_eq_getElem h]
theorem rlaid_left (r : Rf) (f : Nat → Nat) (k : Nat) : (rlaid r f k).left = r.left ∧ (rlaid r f k).down = r.down := by
  induction k with
  | zero => exact ⟨rfl, rfl⟩
  | succ k ih =>
    unfold rlaid
    split
    · exact ih
    · exact ih

/-! ### Texts cut and joined -/
theorem txt_join (xs ys : List UInt8) : (ByteArray.mk xs.toArray) ++ (ByteArray.mk ys.toArray) = ByteArray.mk (xs ++ ys).toArray := by
  apply ByteArray.ext
  simp

/-! ### A slice that a call owns stays what it is -/
theorem own_below {w w' : World} {base : Nat} {e : TypeId} {size n : Nat} {v : Value} {xs : List Value} (h : w.ownsRow base e size v n xs) (k : Below w.heap.size w w') : w'.ownsRow base e size v n xs := by
  refine ⟨h.1, ?_⟩
  rcases h.2 with hn | ⟨g, cap, cur, rfl, hb, hgg, rest⟩
  · exact .inl hn
  · exact .inr ⟨g, cap, cur, rfl, hb, (k.block g (Array.getElem?_eq_some_iff.1 hgg).1).trans hgg, rest⟩
theorem own_drew {w : World} {base : Nat} {e : TypeId} {size n : Nat} {v : Value} {xs : List Value} (h : w.ownsRow base e size v n xs) : w.drew.ownsRow base e size v n xs := h
theorem own_base {w : World} {base base' : Nat} {e : TypeId} {size n : Nat} {v : Value} {xs : List Value} (h : w.ownsRow base e size v n xs) (hb : base' ≤ base) : w.ownsRow base' e size v n xs := by
  refine ⟨h.1, ?_⟩
  rcases h.2 with hn | ⟨g, cap, cur, rfl, hg, rest⟩
  · exact .inl hn
  · exact .inr ⟨g, cap, cur, rfl, Nat.le_trans hb hg, rest⟩
end Go.Proofs.Ythcjhbjhghfhjaa.Dsk
