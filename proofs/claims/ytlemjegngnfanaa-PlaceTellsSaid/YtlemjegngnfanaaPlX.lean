/- Sheets that are not right; copies of lists of numbers, which may be written. -/
import Derived.Test.YtlemjegngnfanaaPlV
import Derived.ArgAppend
namespace Go.Proofs.Ytlemjegngnfanaa.Pl
open Go.RowKit Go.Proofs.Ytlemjegngnfanaa.Oct Go.Proofs.Ytlemjegngnfanaa.Mv Go.Proofs.Ytlemjegngnfanaa.Tl Go.Proofs.Ytlemjegngnfanaa.Pk Go.Maps
set_option linter.unusedVariables false

theorem own_empty (w : World) (base : Nat) (hb : base ≤ w.heap.size) : OwnI (w.alloc (.cells #[] 3)) base (.slice (some ⟨w.heap.size, 0, none⟩) 0 0) [] :=
  ⟨rfl, .inr ⟨w.heap.size, 0, #[], rfl, hb, heap_alloc_new w _, Nat.le_refl _, by unfold maxLen; omega, rfl, rfl⟩⟩
theorem ints_toI (l : List Nat) : (toI l).map (Value.int .i64) = ints l := by simp [toI, ints]
/-- All numbers of a list, appended to what the call owns. -/
theorem app_onto {w : World} {base : Nat} {v : Value} {m : List Int} {b o c : Nat} {l : List Nat} (h : OwnI w base v m) (hs : HasV w b o (ints l)) (hl : l.length ≤ 4096) (hm : m.length ≤ 4096) (hb : base ≤ w.heap.size) (ty : TypeId) :
    ∃ v' w', (Builtin.append_ #[31, 31] ty #[v, .slice (some ⟨b, o, none⟩) l.length c]).run Try.prog w = .ok v' w' ∧ OwnI w' base v' (m ++ toI l) ∧ Below base w w' := by
  obtain ⟨i0, hi, hz0, hz1, hz2⟩ := info_parts int_info
  obtain ⟨v', w', hr, ho, hg, _⟩ := run_append_own (P := Try.prog) w base 31 ty 3 i0 (.int .i64 0) 1 8 Try.underlying31 hi hz0 hz1 hz2 rfl (by omega) v m.length (m.map (Value.int .i64)) h ⟨b, o, none⟩ l.length c (ints l) (by rw [length_ints, Nat.mul_one])
    (fun j u hj => by
      rw [add_plain]
      exact hs.cellAt hj)
    (fun u hu => by simp [ints] at hu; obtain ⟨c, _, rfl⟩ := hu; rfl) (by unfold maxLen; omega) (by omega) hb
  refine ⟨v', w', hr, ?_, ⟨hg.os, hg.tape, hg.output, hg.size, fun k hk => hg.block k (by omega) (fun e => ?_)⟩⟩
  · unfold OwnI
    rw [List.length_append, List.map_append, length_toI, ints_toI]
    exact ho
  · have := (World.ownsRow.lt h k e.symm).1
    omega
theorem OwnI.lo {w : World} {B B2 : Nat} {v : Value} {l : List Int} (h : OwnI w B v l) (k : B2 ≤ B) : OwnI w B2 v l :=
  ⟨h.1, h.2.imp id fun ⟨g, cap, cur, e, hb, rest⟩ => ⟨g, cap, cur, e, Nat.le_trans k hb, rest⟩⟩
/-- Numbers appended to an empty list: a list in new memory. -/
theorem app_fresh {w : World} {b0 : Addr} {b o c : Nat} {l : List Nat} (hs : HasV w b o (ints l)) (h0 : 0 < l.length) (hl : l.length ≤ 4096) (ty : TypeId) :
    ∃ g cp w', (Builtin.append_ #[31, 31] ty #[.slice (some b0) 0 0, .slice (some ⟨b, o, none⟩) l.length c]).run Try.prog w = .ok (.slice (some ⟨g, 0, none⟩) l.length cp) w' ∧ OwnI w' w.heap.size (.slice (some ⟨g, 0, none⟩) l.length cp) (toI l) ∧ Below w.heap.size w w' ∧ w.heap.size ≤ g := by
  obtain ⟨i0, hi, hz0, hz1, hz2⟩ := info_parts int_info
  obtain ⟨v', w', hr, ho, hg⟩ := run_append_arg_grows (P := Try.prog) w 31 ty 3 i0 (.int .i64 0) 1 8 Try.underlying31 hi hz0 hz1 hz2 rfl (by omega) b0 0 0 [] rfl (fun j u hj => by simp at hj) ⟨b, o, none⟩ l.length c (ints l) (by rw [length_ints, Nat.mul_one])
    (fun j u hj => by
      rw [add_plain]
      exact hs.cellAt hj) (by omega) (by unfold maxLen; omega) (by omega)
  have ho2 : OwnI w' w.heap.size v' (toI l) := by
    unfold OwnI
    rw [length_toI, ints_toI]
    simpa using ho
  have hB : Below w.heap.size w w' := ⟨hg.os, hg.tape, hg.output, hg.size, fun k hk => hg.block k hk (fun e => by cases e)⟩
  rcases ho2.2 with ⟨rfl, e⟩ | ⟨g, cap, cur, rfl, hbg, _⟩
  · rw [length_toI] at e; omega
  · rw [length_toI] at hr ho2
    exact ⟨g, cap, w', hr, ho2, hB, hbg⟩
/-- A copy: it lies in one block, which the call owns. -/
theorem OwnI.at_block {w : World} {base : Nat} {v : Value} {l : List Int} (h : OwnI w base v l) (h0 : 0 < l.length) : ∃ g cap, v = .slice (some ⟨g, 0, none⟩) l.length cap ∧ base ≤ g ∧ g < w.heap.size := by
  rcases h.2 with ⟨rfl, e⟩ | ⟨g, cap, cur, rfl, hb, hgg, rest⟩
  · omega
  · exact ⟨g, cap, rfl, hb, (Array.getElem?_eq_some_iff.1 hgg).1⟩
theorem OwnI.put {w : World} {base g n c : Nat} {l : List Int} (h : OwnI w base (.slice (some ⟨g, 0, none⟩) n c) l) (i : Nat) (z : Int) : OwnI (w.setCell ⟨g, i, none⟩ (.int .i64 z)) base (.slice (some ⟨g, 0, none⟩) n c) (l.set i z) := by
  have hn : n = l.length := by
    rcases h.2 with ⟨e, _⟩ | ⟨g', cap, cur, e, _⟩
    · cases e
    · simp only [Value.slice.injEq] at e
      exact e.2.1
  subst hn
  have := (World.ownsRow.stored h i (.int .i64 z)).1
  unfold OwnI
  rw [show (l.set i z).length = l.length by simp, List.map_set]
  exact this
theorem OwnI.fz {w : World} {base g n c : Nat} {l : List Int} (h : OwnI w base (.slice (some ⟨g, 0, none⟩) n c) l) (i : Nat) : w.frozen? ⟨g, i, none⟩ = false := by
  rcases h.2 with ⟨e, _⟩ | ⟨g', cap, cur, e, hb, hgg, _⟩
  · cases e
  · simp only [Value.slice.injEq, Option.some.injEq, Addr.mk.injEq, and_true] at e
    obtain ⟨rfl, _, _⟩ := e
    simp [World.frozen?, hgg]
theorem OwnI.cellZ {w : World} {base g n c : Nat} {l : List Int} (h : OwnI w base (.slice (some ⟨g, 0, none⟩) n c) l) {i : Nat} (hi : i < l.length) : w.cell? ⟨g, i, none⟩ = some (.int .i64 (l.getD i 0)) := by
  have hn : n = l.length := by
    rcases h.2 with ⟨e, _⟩ | ⟨g', cap, cur, e, _⟩
    · cases e
    · simp only [Value.slice.injEq] at e
      exact e.2.1
  subst hn
  rw [World.ownsRow.cellAt h i (by omega)]
  simp [hi]
/-- What the call owns is told. -/
theorem OwnI.told {w : World} {base : Nat} {v : Value} {l : List Int} (h : OwnI w base v l) : ∃ A cap, v = .slice A l.length cap ∧ ToldV w A (zs l) := by
  rcases h.2 with ⟨rfl, e⟩ | ⟨g, cap, cur, rfl, hb, hgg, rest⟩
  · exact ⟨none, 0, by rw [e], .inl (by simp [zs, List.eq_nil_of_length_eq_zero e])⟩
  · refine ⟨_, cap, rfl, .inr ⟨g, 0, rfl, fun i hi => ?_⟩⟩
    rw [length_zs] at hi
    rw [Nat.zero_add, World.ownsRow.cellAt h i (by omega)]
    simp [zs, hi]
/-- All but the first. -/
theorem told_tail {w : World} {g : Nat} {z : Int} {l : List Int} (h : HasV w g 0 (zs (z :: l))) (A : Option Addr) (hA : l ≠ [] → A = some ⟨g, 1, none⟩) : ToldV w A (zs l) := by
  by_cases hl : l = []
  · subst hl; exact .inl rfl
  · refine .inr ⟨g, 1, hA hl, fun i hi => ?_⟩
    have := h (i + 1) (by simp [zs] at hi ⊢; omega)
    rw [show 0 + (i + 1) = 1 + i by omega] at this
    rw [this]
    simp [zs]

/-! ### Not right -/
section
variable {q : Q} {l1 l2 : List Nat}
theorem Sound.pos (h : Sound q l1 l2) : 0 < l1.length ∧ 0 < l2.length := by
  have h1 := h.ok.s.lo
  have : 1 ≤ q.s.n := h1
  refine ⟨by rw [h.len1]; unfold pg; omega, by rw [h.len2]; unfold pg; omega⟩
theorem wrong_short (h : Sound q l1 l2) : ¬ RightS q.s ((toI l1).drop 1) (toI l2) := by
  rintro ⟨h1, _, _⟩
  rw [List.length_drop, length_toI, h.len1] at h1
  have := h.pos.1
  rw [h.len1] at this
  omega
theorem wrong_long (h : Sound q l1 l2) (z : Int) : ¬ RightS q.s (toI l1) (toI l2 ++ [z]) := by
  rintro ⟨_, h2, _⟩
  rw [List.length_append, length_toI, h.len2] at h2
  simp at h2
theorem wrong_twice (h : Sound q l1 l2) : ¬ RightS q.s (toI l1) ((toI l2).set 0 ((l1.getD 0 0 : Nat) : Int)) := by
  rintro ⟨_, _, h3⟩
  have hp := h.pos
  have h0 := h.one 0 (by rw [List.length_append]; omega)
  rw [getD_app1 _ _ _ hp.1] at h0
  have e1 : (toI l1 ++ (toI l2).set 0 ((l1.getD 0 0 : Nat) : Int)).getD l1.length 0 = ((l1.getD 0 0 : Nat) : Int) := by
    have := getD_app2 (toI l1) ((toI l2).set 0 ((l1.getD 0 0 : Nat) : Int)) 0 0
    rw [length_toI] at this
    rw [show l1.length = l1.length + 0 from rfl, this, getD_set, if_pos ⟨rfl, by rw [length_toI]; exact hp.2⟩]
  have e2 : (toI l1 ++ (toI l2).set 0 ((l1.getD 0 0 : Nat) : Int)).getD 0 0 = ((l1.getD 0 0 : Nat) : Int) := by
    rw [getD_app1 _ _ _ (by rw [length_toI]; exact hp.1), toI_get]
  rcases h3 l1.length (by rw [List.length_append, length_toI, List.length_set, length_toI]; omega) with k | ⟨k, _⟩
  · rw [e1] at k
    omega
  · exact k 0 hp.1 (by rw [e1, e2])
theorem wrong_first (h : Sound q l1 l2) {z : Int} (hz : z ≠ 0) (hg : getZ q.s z = 0) : ¬ RightS q.s ((toI l1).set 0 z) (toI l2) := by
  rintro ⟨_, _, h3⟩
  have hp := h.pos
  have e1 : ((toI l1).set 0 z ++ toI l2).getD 0 0 = z := by
    rw [getD_app1 _ _ _ (by rw [List.length_set, length_toI]; exact hp.1), getD_set, if_pos ⟨rfl, by rw [length_toI]; exact hp.1⟩]
  rcases h3 0 (by rw [List.length_append, List.length_set, length_toI]; omega) with k | ⟨_, k⟩
  · rw [e1] at k
    exact hz k
  · rw [e1] at k
    exact k hg
end
theorem getZ_out {s : St} {z : Int} (h : z < 0 ∨ (s.n : Int) ≤ z) : getZ s z = 0 := by
  unfold getZ
  rw [if_neg (by omega)]
theorem R64.set {l : List Int} (h : R64 l) {z : Int} (h1 : -9223372036854775808 ≤ z) (h2 : z ≤ 9223372036854775807) (i : Nat) : R64 (l.set i z) := by
  intro y hy
  rcases List.mem_or_eq_of_mem_set hy with k | rfl
  · exact h y k
  · exact ⟨h1, h2⟩
theorem R64.app {l : List Int} (h : R64 l) {z : Int} (h1 : -9223372036854775808 ≤ z) (h2 : z ≤ 9223372036854775807) : R64 (l ++ [z]) := by
  intro y hy
  rcases List.mem_append.1 hy with k | k
  · exact h y k
  · simp at k
    subst k
    exact ⟨h1, h2⟩
theorem R64.drop {l : List Int} (h : R64 l) (k : Nat) : R64 (l.drop k) := fun y hy => h y (List.mem_of_mem_drop hy)
theorem Sound.r64 {q : Q} {l1 l2 : List Nat} (h : Sound q l1 l2) : R64 (toI l1) ∧ R64 (toI l2) := by
  have hb := right_lt h.right h.ok.s.hi
  exact ⟨R64.toI fun m hm => by have := hb.1 m hm; omega, R64.toI fun m hm => by have := hb.2 m hm; omega⟩
section
variable {w : World} {a cb mb c : Nat} {s : St}
theorem right_yes (h : At w a cb mb c s) {A1 A2 : Option Addr} {c1 c2 : Nat} {l1 l2 : List Nat} (h1 : ToldV w A1 (ints l1)) (h2 : ToldV w A2 (ints l2)) (hr : RightS s (toI l1) (toI l2)) :
    Calls Try.prog 33 #[.pointer (some ⟨a, 0, none⟩), shv A1 A2 l1.length l2.length c1 c2] w fun e w' => e = .returned (.bool true) ∧ Below w.heap.size w w' := by
  have hb := right_lt hr h.ok.hi
  refine (right_nat h h1 h2 (fun m hm => by have := hb.1 m hm; omega) (fun m hm => by have := hb.2 m hm; omega)).mono ?_
  rintro e w' ⟨r, rfl, k, bz⟩
  obtain rfl := k.2 hr
  exact ⟨rfl, bz⟩
theorem right_no (h : At w a cb mb c s) {A1 A2 : Option Addr} {c1 c2 : Nat} {l1 l2 : List Int} (h1 : ToldV w A1 (zs l1)) (h2 : ToldV w A2 (zs l2)) (r1 : R64 l1) (r2 : R64 l2) (hr : ¬ RightS s l1 l2) :
    Calls Try.prog 33 #[.pointer (some ⟨a, 0, none⟩), shv A1 A2 l1.length l2.length c1 c2] w fun e w' => e = .returned (.bool false) ∧ Below w.heap.size w w' := by
  refine (right_any h h1 h2 r1 r2).mono ?_
  rintro e w' ⟨r, rfl, k, bz⟩
  obtain rfl : r = false := by cases r with | false => rfl | true => exact absurd (k.1 rfl) hr
  exact ⟨rfl, bz⟩
end
end Go.Proofs.Ytlemjegngnfanaa.Pl
