/- A pick is made; room is asked for, and given back. -/
import Derived.Test.YtlemjegngnfanaaPkA
namespace Go.Proofs.Ytlemjegngnfanaa.Pk
open Go.RowKit Go.Proofs.Ytlemjegngnfanaa.Oct Go.Proofs.Ytlemjegngnfanaa.Mv Go.Proofs.Ytlemjegngnfanaa.Tl Go.Maps
set_option linter.unusedVariables false

/-! ### New -/
theorem pnew_nay (v : Value) (n : Int) (w : World) (h : Nay w v) :
    Calls Try.prog 9 #[v, .int .i64 n] w fun e w' => e = .returned (.tuple #[.pointer none, .int .i64 1]) ∧ w = w' := by
  go_enter Try.func9, Try.ntmps9
  go_wp2_with fail
  refine (blocks_nay v _ h).mono ?_
  rintro e w' ⟨rfl, rfl⟩
  go_wp2_with fail
  go_ret2
  exact ⟨rfl, rfl⟩
set_option maxRecDepth 100000 in
theorem pnew_bad {w : World} {a cb mb c : Nat} {s : St} (h : At w a cb mb c s) (n : Int) (hn : n < 0 ∨ (s.n : Int) < n) :
    Calls Try.prog 9 #[.pointer (some ⟨a, 0, none⟩), .int .i64 n] w fun e w' => e = .returned (.tuple #[.pointer none, .int .i64 2]) ∧ w = w' := by
  have H := Lib.hid h
  have h1 := h.ok.lo
  have hne : ¬ ((s.n : Int) = 0) := by have : 1 ≤ s.n := h1; omega
  clear h h1
  by_cases h0 : n < 0
  · clear hn
    go_enter Try.func9, Try.ntmps9
    go_wp2_with fail
    refine (blocks_at H.out).mono ?_
    rintro e w' ⟨rfl, rfl⟩
    go_wp2_with fail
    go_ret2
    exact ⟨rfl, rfl⟩
  · have h2 : (s.n : Int) < n := by omega
    clear hn
    go_enter Try.func9, Try.ntmps9
    go_wp2_with fail
    refine (blocks_at H.out).mono ?_
    rintro e w' ⟨rfl, rfl⟩
    go_wp2_with fail
    go_ret2
    exact ⟨rfl, rfl⟩
/-- A pick made by New: a block more. -/
structure PNew (w w' : World) (p a cb mb c : Nat) (q : Q) : Prop where
  at' : PAt w' p a cb mb c q
  below : Below w.heap.size w w'
  hp : w.heap.size ≤ p
set_option maxRecDepth 100000 in
theorem pnew_yes {w : World} {a cb mb c : Nat} {s : St} (h : At w a cb mb c s) (f : Nat) (hf : f ≤ s.n) :
    Calls Try.prog 9 #[.pointer (some ⟨a, 0, none⟩), .int .i64 (f : Int)] w fun e w' => ∃ p, e = .returned (.tuple #[.pointer (some ⟨p, 0, none⟩), .int .i64 0]) ∧ PNew w w' p a cb mb c ⟨s, f, f, 0⟩ := by
  have H := Lib.hid h
  have h1 := h.ok.lo
  have hne : ¬ ((s.n : Int) = 0) := by have : 1 ≤ s.n := h1; omega
  have h0 : ¬ ((f : Int) < 0) := by omega
  have h2 : ¬ ((s.n : Int) < (f : Int)) := by omega
  clear h h1
  go_enter Try.func9, Try.ntmps9
  go_wp2_with fail
  refine (blocks_at H.out).mono ?_
  rintro e w' ⟨rfl, rfl⟩
  go_wp2_with fail
  go_ret2
  have B1 := (Below.refl w.heap.size w).alloc (Nat.le_refl _) (.cells (pcells w.heap.size a ⟨s, f, f, 0⟩).toArray 85)
  have R1 := alloc_rowV w 85 (pcells w.heap.size a ⟨s, f, f, 0⟩)
  exact ⟨w.heap.size, rfl, ⟨R1, H.out.kept B1, ⟨H.out.ok, hf, Nat.le_refl _, .inr rfl, Nat.zero_le _⟩⟩, B1, Nat.le_refl _⟩

/-! ### Ask, Done -/
def Q.ask (q : Q) (n : Int) : Int × Q := if n < 0 then (2, q) else if (q.room : Int) - (q.asked : Int) < n then (90, q) else (0, ⟨q.s, q.first, q.next, q.asked + n.toNat⟩)
def Q.done (q : Q) (n : Int) : Int × Q := if n < 0 then (2, q) else if (q.asked : Int) < n then (91, q) else (0, ⟨q.s, q.first, q.next, q.asked - n.toNat⟩)
/-- Behind an operation of a pick. -/
def PDid (w : World) (p a cb mb c : Nat) (r : Int × Q) (e : Ending) (w' : World) : Prop := e = .returned (.int .i64 r.1) ∧ PAt w' p a cb mb c r.2 ∧ But3 w w' cb mb p
theorem PAt.setAsked {w : World} {p a cb mb c : Nat} {q : Q} (h : PAt w p a cb mb c q) (k : Nat) (hk : k ≤ q.s.n) : PAt (w.setCell ⟨p, 3, none⟩ (.int .i64 (k : Int))) p a cb mb c ⟨q.s, q.first, q.next, k⟩ :=
  ⟨h.row.set 3 _, h.tally.blocks (heap_setCell_other _ _ _ _ (fun e => h.p_a e.symm)) (heap_setCell_other _ _ _ _ (fun e => h.p_cb e.symm)) (heap_setCell_other _ _ _ _ (fun e => h.p_mb e.symm)), ⟨h.ok.s, h.ok.first, h.ok.le, h.ok.next, hk⟩⟩
theorem PAt.drewN {w : World} {p a cb mb c : Nat} {q : Q} (h : PAt w p a cb mb c q) (n : Nat) : PAt (w.drewN n) p a cb mb c q := h.blocks rfl rfl rfl rfl
end Go.Proofs.Ytlemjegngnfanaa.Pk

