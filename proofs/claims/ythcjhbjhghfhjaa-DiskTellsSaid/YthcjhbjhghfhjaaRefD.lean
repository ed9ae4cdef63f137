/- The reference's disk: what its Flush and Crash need of append inside a region that draws its order. -/
import Derived.Test.YthcjhbjhghfhjaaRefC
import Derived.Deep.RegionHeld3
namespace Go.Proofs.Ythcjhbjhghfhjaa.Dsk
open Go.RowKit Go.Proofs.Ythcjhbjhghfhjaa.Oct
set_option linter.unusedVariables false

/-- An append of one own row to another. -/
theorem app_row {w : World} {base base2 n0 n2 : Nat} {v0 v2 : Value} {xs ys : List Value} (h0 : w.ownsRow base 99 2 v0 n0 xs) (h2 : w.ownsRow base2 99 2 v2 n2 ys) (h1 : ∀ u ∈ ys, u.oneCell' = true) (hb : n0 + n2 ≤ 3000000) (hbase : base ≤ w.heap.size) (ty : TypeId) :
    ∃ v' w', (Builtin.append_ #[28, 28] ty #[v0, v2]).run Try.prog w = .ok v' w' ∧ w'.ownsRow base 99 2 v' (n0 + n2) (xs ++ ys) ∧ w.grownBy w' v0.ownBlock := by
  obtain ⟨i0, hi, hz0, hz1, hz2⟩ := info_parts wait_row
  rcases h2.2 with ⟨rfl, rfl⟩ | ⟨g, cap, cur, rfl, hbg, hg, _⟩
  · have hx : ys = [] := List.eq_nil_of_length_eq_zero (by have := h2.1; omega)
    subst hx
    exact ⟨_, _, run_append_owned_none (P := Try.prog) (w := w) base 28 ty 99 i0 2 Try.underlying28 hi _ _ _ h0, by simpa using h0, World.grownBy.refl _ _⟩
  · obtain ⟨v', w2, hrun, ho, hgr, _⟩ := run_append_own (P := Try.prog) w base 28 ty 99 i0 _ 2 24 Try.underlying28 hi hz0 hz1 hz2 rfl (by decide) v0 n0 xs h0 ⟨g, 0, none⟩ n2 cap ys h2.1 (h2.cells (g := g) rfl) h1
      (by unfold maxLen; omega) (by omega) hbase
    exact ⟨v', w2, hrun, ho, hgr⟩
/-- .. inside a region that draws its order. -/
theorem step_app {ops : Array Oper} {o : Oper} {a : Act} {w : World} {K : Act → World → Prop} {Q : Exit → Act → World → Prop} {E : Prop} (hgd : o.guard = none) (s x : Operand)
    (ho : o.op = .call { callee := .builtin .append, args := #[s, x], argTypes := #[28, 28] }) {base base2 n0 n2 : Nat} {v0 v2 : Value} {xs ys : List Value} (hs : a.eval s = v0) (hx : a.eval x = v2)
    (h0 : w.ownsRow base 99 2 v0 n0 xs) (h2 : w.ownsRow base2 99 2 v2 n2 ys) (h1 : ∀ u ∈ ys, u.oneCell' = true) (hb : n0 + n2 ≤ 3000000) (hbase : base ≤ w.heap.size)
    (h : ∀ A c w', w'.ownsRow base 99 2 (.slice A (n0 + n2) c) (n0 + n2) (xs ++ ys) → w.grownBy w' v0.ownBlock → K (a.put o.dst (.slice A (n0 + n2) c)) w') : if Region.wanted o (yielded ops a.tmps) = true then Oper.wp Try.prog o a w K Q else E := by
  have hw : Region.wanted o (yielded ops a.tmps) = true := by simp [Region.wanted, hgd]
  rw [if_pos hw]
  obtain ⟨v', w', hrun, ho', hg'⟩ := app_row h0 h2 h1 hb hbase o.type
  obtain ⟨A, c, rfl, _⟩ := own_form ho'
  unfold Oper.wp
  simp [execOp, ho, resolve, invoke, builtin, hs, hx, hrun, Result.andThen]
  exact h _ _ _ ho' hg'
theorem step_app0 {ops : Array Oper} {o : Oper} {a : Act} {w : World} {K : Act → World → Prop} {Q : Exit → Act → World → Prop} {E : Prop} (hgd : o.guard = none) (s x : Operand)
    (ho : o.op = .call { callee := .builtin .append, args := #[s, x], argTypes := #[28, 28] }) {base base2 n2 : Nat} {v0 v2 : Value} {ys : List Value} (hs : a.eval s = v0) (hx : a.eval x = v2)
    (h0 : w.ownsRow base 99 2 v0 0 []) (h2 : w.ownsRow base2 99 2 v2 n2 ys) (h1 : ∀ u ∈ ys, u.oneCell' = true) (hb : n2 ≤ 3000000) (hbase : base ≤ w.heap.size)
    (h : ∀ A c w', w'.ownsRow base 99 2 (.slice A n2 c) n2 ys → w.grownBy w' v0.ownBlock → K (a.put o.dst (.slice A n2 c)) w') : if Region.wanted o (yielded ops a.tmps) = true then Oper.wp Try.prog o a w K Q else E :=
  step_app hgd s x ho hs hx h0 h2 h1 (by omega) hbase fun A c w' ho' hg' => by
    rw [Nat.zero_add, List.nil_append] at ho'
    rw [Nat.zero_add]
    exact h A c w' ho' hg'
theorem wait_one (p : Int) (bs : List UInt8) (u : Value) (hu : u ∈ ([.int .i64 p, .string ⟨bs.toArray⟩] : List Value)) : u.oneCell' = true := by
  simp only [List.mem_cons, List.mem_nil_iff, or_false] at hu
  rcases hu with rfl | rfl <;> rfl
theorem own_one (w : World) (base : Nat) (hb : base ≤ w.heap.size) (p : Int) (bs : List UInt8) : (w.alloc (.cells #[.int .i64 p, .string ⟨bs.toArray⟩] 99)).ownsRow base 99 2 (.slice (some ⟨w.heap.size, 0, none⟩) 1 1) 1 [.int .i64 p, .string ⟨bs.toArray⟩] :=
  ⟨rfl, .inr ⟨w.heap.size, 1, _, rfl, hb, heap_alloc_new w _, Nat.le_refl _, by unfold maxLen; omega, rfl, rfl⟩⟩
theorem own_none' (w : World) (base : Nat) (hb : base ≤ w.heap.size) : (w.alloc (.cells #[] 99)).ownsRow base 99 2 (.slice (some ⟨w.heap.size, 0, none⟩) 0 0) 0 [] := World.ownsRow_made w #[] 0 hb (Nat.zero_le _) rfl
theorem le_own {g B n c k : Nat} (h : (Value.slice (some ⟨g, 0, none⟩) n c).ownBlock = some k) (hb : B ≤ g) : B ≤ k := by
  cases h
  exact hb
theorem ne_own {g g' n c n' c' k : Nat} (h : (Value.slice (some ⟨g, 0, none⟩) n c).ownBlock = some k) (e : (Value.slice (some ⟨g', 0, none⟩) n' c').ownBlock = some k) (hne : g ≠ g') : False := by
  cases h
  cases e
  exact hne rfl
theorem below_grown {B : Nat} {a w w' : World} {row : Option Nat} (hg : w.grownBy w' row) (h : Below B a w) (ha : B ≤ a.heap.size) (hr : ∀ k, row = some k → B ≤ k) : Below B a w' := h.grown hg (Nat.le_trans ha h.size) hr
theorem own_grown {w w' : World} {row : Option Nat} (hg : w.grownBy w' row) {base : Nat} {e : TypeId} {size n : Nat} {v : Value} {xs : List Value} (h : w.ownsRow base e size v n xs) (hne : ∀ k, v.ownBlock = some k → row ≠ some k) : w'.ownsRow base e size v n xs :=
  own_same h fun k hk hl => hg.block k hl fun e => hne k hk e.symm
def Rf.doFlush (r : Rf) : Int × Rf := if r.down = true then (20, r) else if r.can = false then (20, r.spent) else (0, { r.spent with came := r.came ++ r.waits, waits := [] })
end Go.Proofs.Ythcjhbjhghfhjaa.Dsk
