/- Layer 12: the contract of over, catchmentlaw12's own. -/
import Derived.Test.YtllopocekegljaaNoL
namespace Go.Proofs.Ytllopocekegljaa.No
open Go.RowKit Go.Proofs.Ytllopocekegljaa.Oct Go.Proofs.Ytllopocekegljaa.Lf Go.Proofs.Ytllopocekegljaa.Mv
set_option linter.unusedVariables false
set_option linter.unusedSimpArgs false

/-- A list that lies in a row of its own, from base on; nothing is said of what stands in it. -/
def Room (w : World) (base : Nat) (v : Value) : Prop := v = .slice none 0 0 ∨ ∃ g n cap cur, v = .slice (some ⟨g, 0, none⟩) n cap ∧ base ≤ g ∧ w.heap[g]? = some (.cells cur 25 (0, 0)) ∧ n ≤ cap ∧ cap ≤ maxLen ∧ cur.size = cap
theorem OwnN_room {w : World} {base : Nat} {v : Value} {ns : List UInt64} (h : OwnN w base v ns) : Room w base v := by
  rcases h.2 with ⟨rfl, _⟩ | ⟨g, cap, cur, rfl, hb, hg, hn, hm, hs, _⟩
  · exact .inl rfl
  · exact .inr ⟨g, _, cap, cur, rfl, hb, hg, hn, hm, by rw [hs, Nat.mul_one]⟩
/-- Blocks below base are as they were; rows of numbers above keep their shape. -/
structure Soft (base : Nat) (w w' : World) : Prop where
  below : Below base w w'
  shape : ∀ (k : Nat) (cur : Array Value), w.heap[k]? = some (Obj.cells cur 25 (0, 0)) → ∃ cur' : Array Value, w'.heap[k]? = some (Obj.cells cur' 25 (0, 0)) ∧ cur'.size = cur.size
/-- And all other blocks are as they were. -/
structure Shape (base : Nat) (w w' : World) : Prop where
  below : Below base w w'
  shape : ∀ (k : Nat) (cur : Array Value), w.heap[k]? = some (Obj.cells cur 25 (0, 0)) → ∃ cur' : Array Value, w'.heap[k]? = some (Obj.cells cur' 25 (0, 0)) ∧ cur'.size = cur.size
  rest : ∀ (k : Nat), k < w.heap.size → (∀ cur : Array Value, w.heap[k]? ≠ some (Obj.cells cur 25 (0, 0))) → w'.heap[k]? = w.heap[k]?
theorem Shape.soft {base : Nat} {w w' : World} (h : Shape base w w') : Soft base w w' := ⟨h.below, h.shape⟩
theorem Shape.refl (base : Nat) (w : World) : Shape base w w := ⟨Below.refl _ _, fun k cur h => ⟨cur, h, rfl⟩, fun _ _ _ => rfl⟩
theorem Shape.trans {base : Nat} {w w' w'' : World} (h : Shape base w w') (k : Shape base w' w'') : Shape base w w'' :=
  ⟨h.below.trans k.below, fun q cur hq => by
    obtain ⟨c1, h1, e1⟩ := h.shape q cur hq
    obtain ⟨c2, h2, e2⟩ := k.shape q c1 h1
    exact ⟨c2, h2, e2.trans e1⟩, fun q hq hn => by
    have e := h.rest q hq hn
    exact (k.rest q (Nat.lt_of_lt_of_le hq h.below.size) (fun cur => by rw [e]; exact hn cur)).trans e⟩
theorem Shape.of {base : Nat} {w w' : World} (hb : base ≤ w.heap.size) (h : Below w.heap.size w w') : Shape base w w' :=
  ⟨h.mono hb, fun q cur hq => ⟨cur, (h.block q (Array.getElem?_eq_some_iff.1 hq).1).trans hq, rfl⟩, fun q hq _ => h.block q hq⟩
theorem Shape.set {base : Nat} {w : World} {g : Nat} {cur : Array Value} (hg : w.heap[g]? = some (.cells cur 25 (0, 0))) (hb : base ≤ g) (i : Nat) (v : Value) : Shape base w (w.setCell ⟨g, i, none⟩ v) := by
  refine ⟨(Below.refl base w).setCell (p := ⟨g, i, none⟩) hb v, fun q cur' hq => ?_, fun q _ hn => ?_⟩
  · by_cases e : q = g
    · subst e
      rw [hg] at hq
      simp only [Option.some.injEq, Obj.cells.injEq, and_true, true_and] at hq
      subst hq
      exact ⟨_, heap_setCell_same w q i _ _ _ hg, by simp⟩
    · exact ⟨cur', (heap_setCell_other _ _ _ _ e).trans hq, rfl⟩
  · exact heap_setCell_other _ _ _ _ (fun e => by
      have e2 : q = g := e
      subst e2
      exact hn cur hg)
theorem RowVshape {base : Nat} {w w' : World} {r : Nat} {vs : List Value} (h : RowV w r 24 vs) (k : Shape base w w') : RowV w' r 24 vs :=
  h.block (k.rest r h.lt (fun cur e => by
    unfold RowV at h
    rw [h] at e
    cases e))
theorem row_shape {base : Nat} {w w' : World} {r : Nat} {vs : List Value} (h : RowV w r 24 vs) (k : Shape base w w') : RowV w' r 24 vs := RowVshape h k
theorem BoxD.shape {base : Nat} {w w' : World} {r : Nat} {v : Value} (h : BoxD w r v) (k : Shape base w w') : BoxD w' r v := by
  obtain ⟨x, y, z, e, h⟩ := h
  exact ⟨x, y, z, e, RowVshape h k⟩
theorem Room.soft {base : Nat} {w w' : World} {v : Value} (h : Room w base v) (k : Soft base w w') : Room w' base v := by
  rcases h with h | ⟨g, n, cap, cur, rfl, hb, hg, hn, hm, hs⟩
  · exact .inl h
  · obtain ⟨c, h1, h2⟩ := k.shape g cur hg
    exact .inr ⟨g, n, cap, c, rfl, hb, h1, hn, hm, h2.trans hs⟩
theorem Room.shape {base : Nat} {w w' : World} {v : Value} (h : Room w base v) (k : Shape base w w') : Room w' base v := h.soft k.soft
theorem Room.mono {base base' : Nat} {w : World} {v : Value} (h : Room w base v) (hb : base' ≤ base) : Room w base' v := by
  rcases h with h | ⟨g, n, cap, cur, rfl, h1, rest⟩
  · exact .inl h
  · exact .inr ⟨g, n, cap, cur, rfl, by omega, rest⟩

/-- A node whose lists lie in rows of their own. -/
def NodeR (w : World) (base : Nat) (v : Value) : Prop := ∃ l A n c B m d, v = .agg #[.bool l, .slice A n c, .slice B m d] ∧ Room w base (.slice A n c) ∧ Room w base (.slice B m d)
theorem NodeR.shape {base : Nat} {w w' : World} {v : Value} (h : NodeR w base v) (k : Shape base w w') : NodeR w' base v := by
  obtain ⟨l, A, n, c, B, m, d, e, h1, h2⟩ := h
  exact ⟨l, A, n, c, B, m, d, e, h1.shape k, h2.shape k⟩
theorem NodeR.soft {base : Nat} {w w' : World} {v : Value} (h : NodeR w base v) (k : Soft base w w') : NodeR w' base v := by
  obtain ⟨l, A, n, c, B, m, d, e, h1, h2⟩ := h
  exact ⟨l, A, n, c, B, m, d, e, h1.soft k, h2.soft k⟩
theorem OwnD.roomy {w : World} {base : Nat} {v : Value} {l : Bool} {ks vs : List UInt64} (h : OwnD w base v l ks vs) : NodeR w base v := by
  obtain ⟨vk, vv, rfl, h1, h2⟩ := h
  obtain ⟨A, c, rfl, _⟩ := h1.slice
  obtain ⟨B, d, rfl, _⟩ := h2.slice
  exact ⟨l, A, _, c, B, _, d, rfl, OwnN_room h1, OwnN_room h2⟩
/-- Such nodes in a list. -/
def ListR (w : World) (base : Nat) (v : Value) (k : Nat) : Prop := (v = .slice none 0 0 ∧ k = 0) ∨ ∃ g us, v = .slice (some ⟨g, 0, none⟩) k k ∧ base ≤ g ∧ RowV w g 24 (rowOf us) ∧ us.length = k ∧ ∀ u ∈ us, NodeR w base (.agg #[.bool u.1, u.2.1, u.2.2])
theorem ListR.shape {base : Nat} {w w' : World} {v : Value} {k : Nat} (h : ListR w base v k) (s : Shape base w w') : ListR w' base v k := by
  rcases h with h | ⟨g, us, e, h1, h2, h3, h4⟩
  · exact .inl h
  · exact .inr ⟨g, us, e, h1, RowVshape h2 s, h3, fun u hu => (h4 u hu).shape s⟩
theorem ListD.roomy {w : World} {base : Nat} {v : Value} {L : List PN} (h : ListD w base v L) : ListR w base v L.length := by
  rcases h with ⟨rfl, rfl⟩ | ⟨g, us, e, h1, h2, h3, h4⟩
  · exact .inl ⟨rfl, rfl⟩
  · refine .inr ⟨g, us, e, h1, h2, h3, fun u hu => ?_⟩
    obtain ⟨i, hi, rfl⟩ := List.mem_iff_getElem.1 hu
    obtain ⟨_, o1, o2⟩ := h4 i (by omega) hi
    exact OwnD.roomy (l := us[i].1) ⟨_, _, rfl, o1, o2⟩

theorem length_rowOf (us : List (Bool × Value × Value)) : (rowOf us).length = us.length * 3 := by
  induction us with
  | nil => rfl
  | cons u us ih =>
    simp only [rowOf, List.flatMap_cons, List.length_append, List.length_cons, List.length_nil] at ih ⊢
    omega
theorem rowOf_at (us : List (Bool × Value × Value)) (i : Nat) (h : i < us.length) : (rowOf us)[3 * i]? = some (.bool us[i].1) ∧ (rowOf us)[3 * i + 1]? = some us[i].2.1 ∧ (rowOf us)[3 * i + 2]? = some us[i].2.2 := by
  induction us generalizing i with
  | nil => simp at h
  | cons u us ih =>
    cases i with
    | zero => exact ⟨rfl, rfl, rfl⟩
    | succ i =>
      have := ih i (by simpa using h)
      have e : ∀ j, (rowOf (u :: us))[3 * (i + 1) + j]? = (rowOf us)[3 * i + j]? := fun j => by
        show ([.bool u.1, u.2.1, u.2.2] ++ rowOf us)[3 * (i + 1) + j]? = _
        rw [List.getElem?_append_right (by simp; omega)]
        congr 1
        simp
        omega
      have e0 := e 0
      rw [Nat.add_zero, Nat.add_zero] at e0
      rw [e0, e 1, e 2]
      exact this
theorem rowOf_append (us vs : List (Bool × Value × Value)) : rowOf (us ++ vs) = rowOf us ++ rowOf vs := by unfold rowOf; rw [List.flatMap_append]
theorem node_info : (Try.prog.info? 24).map (fun i => (i.zero, i.size, i.bytes)) = some (some (.agg #[.bool false, .slice none 0 0, .slice none 0 0]), 3, 56) := by kernel_rfl
theorem node_parts : ∃ i0, Try.prog.info? 24 = some i0 ∧ i0.zero = some (.agg #[.bool false, .slice none 0 0, .slice none 0 0]) ∧ i0.size = 3 ∧ i0.bytes = 56 := by
  have h := node_info
  cases hq : Try.prog.info? 24 with
  | none => rw [hq] at h; cases h
  | some i0 =>
    rw [hq] at h
    simp only [Option.map_some, Option.some.injEq, Prod.mk.injEq] at h
    exact ⟨i0, rfl, h.1, h.2.1, h.2.2⟩
/-- Nodes with rows of their own are appended to nodes that the call owns. -/
theorem run_append_nodes {w : World} {base : Nat} (ty : TypeId) {v j : Value} {n k : Nat} {us : List (Bool × Value × Value)} (hl : us.length = n) (hown : w.ownsRow base 24 3 v n (rowOf us)) (hu : ∀ u ∈ us, NodeR w base (.agg #[.bool u.1, u.2.1, u.2.2])) (hj : ListR w base j k) (hb : base ≤ w.heap.size) (hn : n + k ≤ 100) :
    ∃ v' w' us', (Builtin.append_ #[38, 38] ty #[v, j]).run Try.prog w = .ok v' w' ∧ w'.ownsRow base 24 3 v' (n + k) (rowOf us') ∧ us'.length = n + k ∧ (∀ u ∈ us', NodeR w' base (.agg #[.bool u.1, u.2.1, u.2.2])) ∧ Soft base w w' := by
  obtain ⟨i0, hi, hz0, hz1, hz2⟩ := node_parts
  rcases hj with ⟨rfl, rfl⟩ | ⟨g, vs, rfl, h1, h2, h3, h4⟩
  · refine ⟨v, w, us, run_append_owned_none w base 38 ty 24 i0 3 Try.underlying38 hi v n (rowOf us) hown, hown, by omega, hu, ⟨Below.refl _ _, fun q cur h => ⟨cur, h, rfl⟩⟩⟩
  · obtain ⟨v', w', r1, r2, r3, _, r5⟩ := run_append_own_at (P := Try.prog) w base 38 ty 24 i0 (.agg #[.bool false, .slice none 0 0, .slice none 0 0]) 3 56 Try.underlying38 hi hz0 hz1 hz2 rfl (by omega) v n (rowOf us) hown ⟨g, 0, none⟩ k k (rowOf vs) (by rw [length_rowOf, h3])
      (fun q u hq => by
        have := h2.has.cellAt hq
        rw [add_plain]
        exact this)
      (fun u hm => by
        unfold rowOf at hm
        obtain ⟨x, hx, hm⟩ := List.mem_flatMap.1 hm
        obtain ⟨l, A, n, c, B, m, d, e, _, _⟩ := h4 x hx
        simp only [Value.agg.injEq, Array.mk.injEq, List.cons.injEq, and_true] at e
        obtain ⟨_, e1, e2⟩ := e
        simp only [List.mem_cons, List.not_mem_nil, or_false] at hm
        rcases hm with rfl | rfl | rfl
        · rfl
        · rw [e1]; rfl
        · rw [e2]; rfl) (by unfold maxLen; omega) (by omega) hb
    have hs : Soft base w w' := by
      refine ⟨⟨r3.os, r3.tape, r3.output, r3.size, fun q hq => r3.block q (by omega) (fun e => by have := (World.ownsRow.lt hown q e.symm).1; omega)⟩, fun q cur hq => ⟨cur, ?_, rfl⟩⟩
      refine (r3.block q (Array.getElem?_eq_some_iff.1 hq).1 (fun e => ?_)).trans hq
      rcases hown.2 with ⟨rfl, _⟩ | ⟨g', cap, cur', rfl, _, hg', _⟩
      · cases e
      · have e2 : q = g' := by simpa [Value.ownBlock] using e
        subst e2
        rw [hq] at hg'
        cases hg'
    refine ⟨v', w', us ++ vs, r1, by rw [rowOf_append]; exact r2, by rw [List.length_append]; omega, fun u hm => ?_, hs⟩
    rcases List.mem_append.1 hm with hm | hm
    · exact (hu u hm).soft hs
    · exact (h4 u hm).soft hs
theorem run_nums_all (w : World) (A : Option Addr) (n c : Nat) (hc : n ≤ c) (hm : c ≤ maxLen) :
    (Instr.slice 22 (.slice A n c) none (some (.int .i64 (c : Int))) none).run Try.prog w = .ok (.slice A c c) w := by
  unfold maxLen at hm
  have ht : Try.prog.underlying 22 = some (.slice (Try.prog.elem 22)) := by simp [Program.elem, Try.underlying22]
  have he : Try.prog.elem 22 = 25 := by simp [Program.elem, Try.underlying22]
  rw [run_slice_h w 22 A n c ht .i64 (c : Int) (by omega) (by omega), he, num_size]
  cases A <;> simp [Result.andThen, sliced, Addr.add]

set_option maxRecDepth 100000 in
set_option maxHeartbeats 1000000 in
theorem over_any {w : World} {base : Nat} {v : Value} (h : Room w base v) :
    Calls Try.prog 28 #[v] w fun e w' => e = .returned (.tuple #[]) ∧ Shape base w w' := by
  obtain ⟨A, n, cap, rfl, hn, hm, hA⟩ : ∃ A n cap, v = .slice A n cap ∧ n ≤ cap ∧ cap ≤ maxLen ∧ Hid (0 < cap → ∃ g cur, A = some ⟨g, 0, none⟩ ∧ base ≤ g ∧ w.heap[g]? = some (Obj.cells cur 25 (0, 0)) ∧ cur.size = cap) := by
    rcases h with rfl | ⟨g, n, cap, cur, rfl, hb, hg, hn, hm, hs⟩
    · exact ⟨none, 0, 0, rfl, Nat.le_refl _, Nat.zero_le _, Lib.hid (fun h => absurd h (Nat.lt_irrefl _))⟩
    · exact ⟨_, n, cap, rfl, hn, hm, Lib.hid (fun _ => ⟨g, cur, rfl, hb, hg, hs⟩)⟩
  have hsl := fun w => run_nums_all w A n cap hn hm
  have hcap : cap ≤ 9223372036854775807 := by unfold maxLen at hm; omega
  go_enter Try.func28, Try.ntmps28
  go_wp2_with fail
  go_loopw [9] (fun i wr => ∃ k : Nat, k ≤ cap ∧ i = .int .i64 (k : Int) ∧ Hid (Shape base w wr)) (fun i _ => cap - (intOf i).toNat)
  case atStart => exact ⟨0, Nat.zero_le _, rfl, Lib.hid (Shape.refl _ _)⟩
  case round =>
    obtain ⟨k, hk, rfl, HS⟩ := hrel
    by_cases hlt : k < cap
    · obtain ⟨g, cur, rfl, hb, hg, hs⟩ := hA.out (by omega)
      obtain ⟨c1, h1, e1⟩ := HS.out.shape g cur hg
      have hkc : k < c1.size := by omega
      have hc : wr.cell? ⟨g, k, none⟩ = some c1[k] := by
        rw [cell_of_row wr g k c1 _ _ h1]
        simp [hkc]
      have hf : wr.frozen? ⟨g, k, none⟩ = false := by simp [World.frozen?, h1]
      have HS2 := fun v => Lib.hid (HS.out.trans (Shape.set h1 hb k v))
      generalize c1[k] = cv at hc
      clear h1 HS hg hs
      go_wp2_with fail
      go_roundw
      case rel => exact ⟨k + 1, by omega, by go_num, HS2 _⟩
      case measure => simp [intOf]; omega
    · obtain rfl : k = cap := by omega
      go_wp2_with fail
      go_end0
      exact ⟨rfl, HS.out⟩
end Go.Proofs.Ytllopocekegljaa.No
