/- A pick is made; room is asked for, and given back. -/
import Derived.Test.YtkjdagjhbjpcnaaPkA
namespace Go.Proofs.Ytkjdagjhbjpcnaa.Pk
open Go.RowKit Go.Proofs.Ytkjdagjhbjpcnaa.Oct Go.Proofs.Ytkjdagjhbjpcnaa.Mv Go.Proofs.Ytkjdagjhbjpcnaa.Tl Go.Maps
set_option linter.unusedVariables false

/-! ### New -/
theorem pnew_nay (v : Value) (n : Int) (w : World) (h : Nay w v) :
    Calls Try.prog 10 #[v, .int .i64 n] w fun e w' => e = .returned (.tuple #[.pointer none, .int .i64 1]) ∧ w = w' := by
  go_enter Try.func10, Try.ntmps10
  go_wp2_with fail
  refine (blocks_nay v _ h).mono ?_
  rintro e w' ⟨rfl, rfl⟩
  go_wp2_with fail
  go_ret2
  exact ⟨rfl, rfl⟩
set_option maxRecDepth 100000 in
theorem pnew_bad {w : World} {a cb mb c : Nat} {s : St} (h : At w a cb mb c s) (n : Int) (hn : n < 0 ∨ (s.n : Int) < n) :
    Calls Try.prog 10 #[.pointer (some ⟨a, 0, none⟩), .int .i64 n] w fun e w' => e = .returned (.tuple #[.pointer none, .int .i64 2]) ∧ w = w' := by
  have H := Lib.hid h
  have h1 := h.ok.lo
  have hne : ¬ ((s.n : Int) = 0) := by have : 1 ≤ s.n := h1; omega
  clear h h1
  by_cases h0 : n < 0
  · clear hn
    go_enter Try.func10, Try.ntmps10
    go_wp2_with fail
    refine (blocks_at H.out).mono ?_
    rintro e w' ⟨rfl, rfl⟩
    go_wp2_with fail
    go_ret2
    exact ⟨rfl, rfl⟩
  · have h2 : (s.n : Int) < n := by omega
    clear hn
    go_enter Try.func10, Try.ntmps10
    go_wp2_with fail
    refine (blocks_at H.out).mono ?_
    rintro e w' ⟨rfl, rfl⟩
    go_wp2_with fail
    go_ret2
    exact ⟨rfl, rfl⟩
/-- A pick made by New: a block more. -/
structure PNew (w w' : World) (p a cb mb c : Nat) (q : Q) : Prop where
  at' : PAt w' p a cb mb c q
  below : Below w.heap.size w w'
  hp : w.heap.size ≤ p
set_option maxRecDepth 100000 in
theorem pnew_yes {w : World} {a cb mb c : Nat} {s : St} (h : At w a cb mb c s) (f : Nat) (hf : f ≤ s.n) :
    Calls Try.prog 10 #[.pointer (some ⟨a, 0, none⟩), .int .i64 (f : Int)] w fun e w' => ∃ p, e = .returned (.tuple #[.pointer (some ⟨p, 0, none⟩), .int .i64 0]) ∧ PNew w w' p a cb mb c ⟨s, f, f, 0⟩ := by
  have H := Lib.hid h
  have h1 := h.ok.lo
  have hne : ¬ ((s.n : Int) = 0) := by have : 1 ≤ s.n := h1; omega
  have h0 : ¬ ((f : Int) < 0) := by omega
  have h2 : ¬ ((s.n : Int) < (f : Int)) := by omega
  clear h h1
  go_enter Try.func10, Try.ntmps10
  go_wp2_with fail
  refine (blocks_at H.out).mono ?_
  rintro e w' ⟨rfl, rfl⟩
  go_wp2_with fail
  go_ret2
  have B1 := (Below.refl w.heap.size w).alloc (Nat.le_refl _) (.cells (pcells w.heap.size a ⟨s, f, f, 0⟩).toArray 61)
  have R1 := alloc_rowV w 61 (pcells w.heap.size a ⟨s, f, f, 0⟩)
  exact ⟨w.heap.size, rfl, ⟨R1, H.out.kept B1, ⟨H.out.ok, hf, Nat.le_refl _, .inr rfl, Nat.zero_le _⟩⟩, B1, Nat.le_refl _⟩

/-! ### Ask, Done -/
def Q.ask (q : Q) (n : Int) : Int × Q := if n < 0 then (2, q) else if (q.room : Int) - (q.asked : Int) < n then (90, q) else (0, ⟨q.s, q.first, q.next, q.asked + n.toNat⟩)
def Q.done (q : Q) (n : Int) : Int × Q := if n < 0 then (2, q) else if (q.asked : Int) < n then (91, q) else (0, ⟨q.s, q.first, q.next, q.asked - n.toNat⟩)
/-- Behind an operation of a pick. -/
def PDid (w : World) (p a cb mb c : Nat) (r : Int × Q) (e : Ending) (w' : World) : Prop := e = .returned (.int .i64 r.1) ∧ PAt w' p a cb mb c r.2 ∧ But3 w w' cb mb p
theorem PAt.setAsked {w : World} {p a cb mb c : Nat} {q : Q} (h : PAt w p a cb mb c q) (k : Nat) (hk : k ≤ q.s.n) : PAt (w.setCell ⟨p, 3, none⟩ (.int .i64 (k : Int))) p a cb mb c ⟨q.s, q.first, q.next, k⟩ :=
  ⟨h.row.set 3 _, h.tally.blocks (heap_setCell_other _ _ _ _ (fun e => h.p_a e.symm)) (heap_setCell_other _ _ _ _ (fun e => h.p_cb e.symm)) (heap_setCell_other _ _ _ _ (fun e => h.p_mb e.symm)), ⟨h.ok.s, h.ok.first, h.ok.le, h.ok.next, hk⟩⟩
theorem PAt.drewN {w : World} {p a cb mb c : Nat} {q : Q} (h : PAt w p a cb mb c q) (n : Nat) : PAt (w.drewN n) p a cb mb c q := h.blocks rfl rfl rfl rfl
theorem ask_nay (v : Value) (n : Int) (w : World) (h : PNay w v) :
    Calls Try.prog 26 #[v, .int .i64 n] w fun e w' => e = .returned (.int .i64 1) ∧ w = w' := by
  go_enter Try.func26, Try.ntmps26
  go_wp2_with fail
  refine (pmade_nay v _ h).mono ?_
  rintro e w' ⟨rfl, rfl⟩
  go_wp2_with fail
  go_ret
  exact ⟨rfl, rfl⟩
theorem done_nay (v : Value) (n : Int) (w : World) (h : PNay w v) :
    Calls Try.prog 28 #[v, .int .i64 n] w fun e w' => e = .returned (.int .i64 1) ∧ w = w' := by
  go_enter Try.func28, Try.ntmps28
  go_wp2_with fail
  refine (pmade_nay v _ h).mono ?_
  rintro e w' ⟨rfl, rfl⟩
  go_wp2_with fail
  go_ret
  exact ⟨rfl, rfl⟩
set_option maxRecDepth 100000 in
theorem done_at {w : World} {p a cb mb c : Nat} {q : Q} (h : PAt w p a cb mb c q) (n : Int) :
    Calls Try.prog 28 #[.pointer (some ⟨p, 0, none⟩), .int .i64 n] w (PDid w p a cb mb c (q.done n)) := by
  have H := Lib.hid h
  have c3 := h.c3
  have c4 := h.c4
  have f3 := h.row.free 3
  have ha := h.ok.asked
  have hn := h.ok.s.hi
  have hn' : q.s.n ≤ 4096 := hn
  clear h hn
  by_cases h0 : n < 0
  · have HU := Lib.hid (show q.done n = (2, q) by unfold Q.done; rw [if_pos h0])
    go_enter Try.func28, Try.ntmps28
    go_wp2_with fail
    refine (pmade_self p _ c4).mono ?_
    rintro e w' ⟨rfl, rfl⟩
    go_wp2_with fail
    go_ret
    rw [HU.out]
    exact ⟨rfl, H.out, But3.refl _ _ _ _⟩
  · by_cases h1 : (q.asked : Int) < n
    · have HU := Lib.hid (show q.done n = (91, q) by unfold Q.done; rw [if_neg h0, if_pos h1])
      go_enter Try.func28, Try.ntmps28
      go_wp2_with fail
      refine (pmade_self p _ c4).mono ?_
      rintro e w' ⟨rfl, rfl⟩
      go_wp2_with fail
      go_ret
      rw [HU.out]
      exact ⟨rfl, H.out, But3.refl _ _ _ _⟩
    · obtain ⟨m, rfl⟩ : ∃ m : Nat, n = (m : Int) := ⟨n.toNat, by omega⟩
      have hm : m ≤ q.asked := by omega
      obtain ⟨z, hz⟩ : ∃ z : Nat, z = q.asked - m := ⟨_, rfl⟩
      have HU := Lib.hid (show q.done (m : Int) = (0, ⟨q.s, q.first, q.next, z⟩) by unfold Q.done; rw [if_neg h0, if_neg h1, Int.toNat_natCast, hz])
      have hzi : (q.asked : Int) - (m : Int) = (z : Int) := by omega
      have hzn : z ≤ q.s.n := by omega
      clear hz
      go_enter Try.func28, Try.ntmps28
      go_wp2_with fail
      refine (pmade_self p _ c4).mono ?_
      rintro e w' ⟨rfl, rfl⟩
      go_wp2_with fail
      go_ret
      rw [HU.out]
      exact ⟨rfl, H.out.setAsked z hzn, But3.set _ _ _ _ _ _⟩
set_option maxRecDepth 100000 in
theorem ask_at {w : World} {p a cb mb c : Nat} {q : Q} (h : PAt w p a cb mb c q) (n : Int) :
    Calls Try.prog 26 #[.pointer (some ⟨p, 0, none⟩), .int .i64 n] w (PDid w p a cb mb c (q.ask n)) := by
  have H := Lib.hid h
  have c3 := h.c3
  have c4 := h.c4
  have f3 := h.row.free 3
  have ha := h.ok.asked
  have hn' : q.s.n ≤ 4096 := h.ok.s.hi
  have hr := q.room_le
  clear h
  by_cases h0 : n < 0
  · have HU := Lib.hid (show q.ask n = (2, q) by unfold Q.ask; rw [if_pos h0])
    go_enter Try.func26, Try.ntmps26
    go_wp2_with fail
    refine (pmade_self p _ c4).mono ?_
    rintro e w' ⟨rfl, rfl⟩
    go_wp2_with fail
    go_ret
    rw [HU.out]
    exact ⟨rfl, H.out, But3.refl _ _ _ _⟩
  · by_cases h1 : (q.room : Int) - (q.asked : Int) < n
    · have HU := Lib.hid (show q.ask n = (90, q) by unfold Q.ask; rw [if_neg h0, if_pos h1])
      go_enter Try.func26, Try.ntmps26
      go_wp2_with fail
      refine (pmade_self p _ c4).mono ?_
      rintro e w' ⟨rfl, rfl⟩
      go_upto_region 5 with (fail)
      go_quiet ((go_at_call 13; exact Calls.quiet_of_same (calls_flip (room_at (H.out.drewN _)))))
      have HN := Lib.hid (H.out.drewN nq)
      have HB := Lib.hid (show But3 w (w.drewN nq) cb mb p from But3.still ⟨rfl, rfl, rfl, rfl⟩)
      clear c3 c4 f3 H
      generalize w.drewN nq = w1 at *
      have c3 := HN.out.c3
      have f3 := HN.out.row.free 3
      go_wp2_with fail
      go_ret
      rw [HU.out]
      exact ⟨rfl, HN.out, HB.out⟩
    · obtain ⟨m, rfl⟩ : ∃ m : Nat, n = (m : Int) := ⟨n.toNat, by omega⟩
      obtain ⟨z, hz⟩ : ∃ z : Nat, z = q.asked + m := ⟨_, rfl⟩
      have HU := Lib.hid (show q.ask (m : Int) = (0, ⟨q.s, q.first, q.next, z⟩) by unfold Q.ask; rw [if_neg h0, if_neg h1, Int.toNat_natCast, hz])
      have hzi : (q.asked : Int) + (m : Int) = (z : Int) := by omega
      have hzn : z ≤ q.s.n := by omega
      clear hz
      go_enter Try.func26, Try.ntmps26
      go_wp2_with fail
      refine (pmade_self p _ c4).mono ?_
      rintro e w' ⟨rfl, rfl⟩
      go_upto_region 5 with (fail)
      go_quiet ((go_at_call 13; exact Calls.quiet_of_same (calls_flip (room_at (H.out.drewN _)))))
      have HN := Lib.hid (H.out.drewN nq)
      have HB := Lib.hid (show But3 w (w.drewN nq) cb mb p from But3.still ⟨rfl, rfl, rfl, rfl⟩)
      clear c3 c4 f3 H
      generalize w.drewN nq = w1 at *
      have c3 := HN.out.c3
      have f3 := HN.out.row.free 3
      go_wp2_with fail
      go_ret
      rw [HU.out]
      exact ⟨rfl, HN.out.setAsked z hzn, HB.out.trans (But3.set _ _ _ _ _ _)⟩
end Go.Proofs.Ytkjdagjhbjpcnaa.Pk
