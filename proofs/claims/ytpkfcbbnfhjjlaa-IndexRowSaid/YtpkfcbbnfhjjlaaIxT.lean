/- IndexRow: a row cut into pages: mathematics, rows of rows. -/
import Derived.Test.YtpkfcbbnfhjjlaaIrC
import Derived.Deep.AppendLies
import Derived.Deep.RegionLaw
import Derived.Deep.DeepCutAuto
namespace Go.Proofs.Ytpkfcbbnfhjjlaa.Ix
open Go.RowKit Go.Proofs.Ytpkfcbbnfhjjlaa.Oct Go.Proofs.Ytpkfcbbnfhjjlaa.Sf
set_option linter.unusedVariables false

/-- What page p has of the first i numbers. -/
def chunk (l : List UInt16) (i p : Nat) : List UInt16 := ((l.take i).drop (61 * p)).take 61
theorem chunk_get (l : List UInt16) (i p j : Nat) : (chunk l i p)[j]? = if j < 61 then (if 61 * p + j < i then l[61 * p + j]? else none) else none := by
  unfold chunk
  rw [List.getElem?_take]
  split
  · rw [List.getElem?_drop, List.getElem?_take]
  · rfl
theorem chunk_zero (l : List UInt16) (p : Nat) : chunk l 0 p = [] := by simp [chunk]
theorem chunk_len (l : List UInt16) (i : Nat) (h : i ≤ l.length) : (chunk l i (i / 61)).length = i % 61 := by
  unfold chunk
  simp only [List.length_take, List.length_drop]
  omega
theorem chunk_same (l : List UInt16) (i p : Nat) (h : p ≠ i / 61) : chunk l (i + 1) p = chunk l i p := by
  apply List.ext_getElem?
  intro j
  rw [chunk_get, chunk_get]
  split
  · by_cases h1 : 61 * p + j < i
    · rw [if_pos h1, if_pos (by omega)]
    · rw [if_neg h1, if_neg (by omega)]
  · rfl
theorem chunk_next (l : List UInt16) (i : Nat) (h : i < l.length) : chunk l (i + 1) (i / 61) = chunk l i (i / 61) ++ [l[i]] := by
  have hl := chunk_len l i (by omega)
  apply List.ext_getElem?
  intro j
  rw [chunk_get]
  by_cases hj : j < i % 61
  · rw [List.getElem?_append_left (by omega), chunk_get]
    rw [if_pos (by omega), if_pos (by omega), if_pos (by omega), if_pos (by omega)]
  · rw [List.getElem?_append_right (by omega), hl]
    by_cases hj2 : j = i % 61
    · subst hj2
      rw [if_pos (by omega), if_pos (by omega), show 61 * (i / 61) + i % 61 = i by omega]
      simp [h]
    · have : j - i % 61 = (j - i % 61 - 1) + 1 := by omega
      rw [this]
      split
      · rw [if_neg (by omega)]; simp
      · simp
theorem chunk_all (l : List UInt16) (p : Nat) : chunk l l.length p = (l.drop (61 * p)).take 61 := by
  unfold chunk
  rw [List.take_length]
theorem take_chunk (l : List UInt16) (p : Nat) : l.take (61 * p) ++ chunk l l.length p = l.take (61 * (p + 1)) := by
  rw [chunk_all, show 61 * (p + 1) = 61 * p + 61 by omega, List.take_add]
theorem chunk_pos (l : List UInt16) (p : Nat) (h : 61 * p < l.length) : 0 < (chunk l l.length p).length := by
  rw [chunk_all]
  simp
  omega
theorem chunk_le (l : List UInt16) (i p : Nat) : (chunk l i p).length ≤ 61 := by
  unfold chunk
  simp
  omega

/-- The rows: each is the call's own, in a block of its own. -/
structure Rows (w : World) (R P i : Nat) (l : List UInt16) (vs : List Value) : Prop where
  len : vs.length = P
  row : RowV w R 22 vs
  own : ∀ (p : Nat) (v : Value), vs[p]? = some v → OwnW w (R + 1) v (chunk l i p)
  ne : ∀ (p q : Nat) (v u : Value) (b : Nat), p ≠ q → vs[p]? = some v → vs[q]? = some u → v.ownBlock = some b → u.ownBlock ≠ some b
theorem Rows.start (w : World) (P : Nat) (l : List UInt16) : Rows (w.alloc (.cells (List.replicate P (.slice none 0 0)).toArray 22)) w.heap.size P 0 l (List.replicate P (.slice none 0 0)) := by
  refine ⟨by simp, alloc_rowV w _ _, fun p v hv => ?_, fun p q v u b _ hv _ hb => ?_⟩
  · have : v = .slice none 0 0 := (List.mem_replicate.1 (List.mem_of_getElem? hv)).2
    subst this
    rw [chunk_zero]
    exact World.ownsRow_nil _ _ _ _
  · have : v = .slice none 0 0 := (List.mem_replicate.1 (List.mem_of_getElem? hv)).2
    subst this
    cases hb
theorem Rows.push {w w2 : World} {R P i : Nat} {l : List UInt16} {vs : List Value} {v v' : Value} {tmp : Obj} (h : Rows w R P i l vs) (hi : i < l.length) (hv : vs[i / 61]? = some v)
    (ho : OwnW w2 (R + 1) v' (chunk l i (i / 61) ++ [l[i]])) (hg : (w.alloc tmp).grownBy w2 v.ownBlock) (hw : v'.ownBlock = v.ownBlock ∨ v'.ownBlock = some (w.alloc tmp).heap.size) :
    Rows (w2.setCell ⟨R, i / 61, none⟩ v') R P (i + 1) l (vs.set (i / 61) v') := by
  have hR := h.row.lt
  have hsz : (w.alloc tmp).heap.size = w.heap.size + 1 := by simp
  have old : ∀ k, k < w.heap.size → v.ownBlock ≠ some k → w2.heap[k]? = w.heap[k]? := fun k hk hn => by
    rw [hg.block k (by omega) (fun e => hn e.symm)]
    exact (((Below.refl w.heap.size w).alloc (Nat.le_refl _) tmp).block k hk)
  have hvR : v.ownBlock ≠ some R := fun e => by have := (World.ownsRow.lt (h.own _ _ hv) R e).1; omega
  have keep : ∀ (u : Value) (xs : List UInt16), OwnW w2 (R + 1) u xs → OwnW (w2.setCell ⟨R, i / 61, none⟩ v') (R + 1) u xs := fun u xs hu =>
    hu.same fun k e _ => heap_setCell_other _ _ _ _ (by have := (World.ownsRow.lt hu k e).1; show k ≠ R; omega)
  have hil : i / 61 < vs.length := by
    rcases Nat.lt_or_ge (i / 61) vs.length with h1 | h1
    · exact h1
    · rw [List.getElem?_eq_none h1] at hv; cases hv
  refine ⟨by rw [List.length_set]; exact h.len, (h.row.block (old R hR hvR)).set _ _, fun p u hu => ?_, fun p q u x b hpq hu hx hb => ?_⟩
  · by_cases hp : p = i / 61
    · subst hp
      rw [List.getElem?_set_self hil] at hu
      cases hu
      rw [chunk_next l i hi]
      exact keep _ _ ho
    · rw [List.getElem?_set_ne (Ne.symm hp)] at hu
      rw [chunk_same l i p hp]
      have hu2 := h.own p u hu
      refine keep _ _ (hu2.same fun k e hk => old k hk (fun e2 => h.ne p (i / 61) u v k hp hu hv e e2))
  · have lt1 : ∀ (r : Nat) (y : Value) (c : Nat), r ≠ i / 61 → vs[r]? = some y → y.ownBlock = some c → v'.ownBlock ≠ some c := fun r y c hr hy hc e => by
      rcases hw with hw | hw
      · rw [hw] at e
        exact h.ne r (i / 61) y v c hr hy hv hc e
      · rw [hw] at e
        cases e
        have := (World.ownsRow.lt (h.own r y hy) _ hc).2
        omega
    by_cases hp : p = i / 61
    · subst hp
      rw [List.getElem?_set_self hil] at hu
      cases hu
      rw [List.getElem?_set_ne hpq] at hx
      exact fun e => lt1 q x b (Ne.symm hpq) hx e hb
    · rw [List.getElem?_set_ne (Ne.symm hp)] at hu
      by_cases hq : q = i / 61
      · subst hq
        rw [List.getElem?_set_self hil] at hx
        cases hx
        exact lt1 p u b hp hu hb
      · rw [List.getElem?_set_ne (Ne.symm hq)] at hx
        exact h.ne p q u x b hpq hu hx hb
theorem run_append_word (w : World) (ty : TypeId) (base : Nat) (v : Value) (ns : List UInt16) (hown : OwnW w base v ns) (hn : ns.length ≤ 1000) (b : Nat) (y : UInt16) (hc : w.cell? ⟨b, 0, none⟩ = some (.int .u16 (y.toNat : Int))) (hbase : base ≤ w.heap.size) :
    ∃ v' w', (Builtin.append_ #[22, 22] ty #[v, .slice (some ⟨b, 0, none⟩) 1 1]).run Try.prog w = .ok v' w' ∧ OwnW w' base v' (ns ++ [y]) ∧ w.grownBy w' v.ownBlock ∧ (v'.ownBlock = v.ownBlock ∨ v'.ownBlock = some w.heap.size) := by
  obtain ⟨i0, hi, hz0, hz1, hz2⟩ := info_parts word_info
  obtain ⟨v', w', hr, ho', hg, _, hw⟩ := run_append_own_at (P := Try.prog) w base 22 ty 43 i0 (.int .u16 0) 1 2 Try.underlying22 hi hz0 hz1 hz2 rfl (by omega) v ns.length (wvals ns) hown ⟨b, 0, none⟩ 1 1 (wvals [y]) rfl
    (fun j u hj => by
      cases j with
      | zero => simp [wvals] at hj; subst hj; rw [add_plain]; exact hc
      | succ j => simp [wvals] at hj) (fun u hu => by simp [wvals] at hu; subst hu; rfl) (by unfold maxLen; omega) (by omega) hbase
  refine ⟨v', w', hr, ?_, hg, hw⟩
  unfold OwnW
  rw [List.length_append, wvals_append]
  exact ho'
/-- An append whose run is known, in a region that draws its order. -/
theorem step_append_run {P : Program} {ops : Array Oper} {o : Oper} {a : Act} {w : World} {K : Act → World → Prop} {Q : Exit → Act → World → Prop} {E : Prop} (hgd : o.guard = none) (s x : Operand) (t : TypeId)
    (ho : o.op = .call { callee := .builtin .append, args := #[s, x], argTypes := #[t, t] }) (v1 v2 : Value) (hs : a.eval s = v1) (hx : a.eval x = v2) (v' : Value) (w' : World)
    (hrun : (Builtin.append_ #[t, t] o.type #[v1, v2]).run P w = .ok v' w') (h : K (a.put o.dst v') w') : if Region.wanted o (yielded ops a.tmps) = true then Oper.wp P o a w K Q else E := by
  have hw : Region.wanted o (yielded ops a.tmps) = true := by simp [Region.wanted, hgd]
  rw [if_pos hw]
  unfold Oper.wp
  simp [execOp, ho, resolve, invoke, builtin, hs, hx, hrun, Result.andThen]
  exact h
theorem rows_info : (Try.prog.info? 22).map (fun i => (i.zero, i.size, i.bytes)) = some (some (.slice none 0 0), 1, 24) := by kernel_rfl
theorem made_rows (n : Nat) : madeCells (Value.slice none 0 0).cells n = (List.replicate n (Value.slice none 0 0)).toArray := by
  apply Array.ext
  · simp [madeCells]
  · intro i h1 h2
    simp [madeCells, Value.cells, Nat.mod_one]
theorem run_make_rows (w : World) (n : Nat) (hn : n ≤ 1000) :
    (Instr.makeSlice 45 (.int .i64 (n : Int)) (.int .i64 (n : Int))).run Try.prog w = .ok (.slice (some ⟨w.heap.size, 0, none⟩) n n) (w.alloc (.cells (List.replicate n (Value.slice none 0 0)).toArray 22)) := by
  obtain ⟨i0, hi, hz0, hz1, hz2⟩ := info_parts rows_info
  have h := run_make (P := Try.prog) w 45 22 i0 (.slice none 0 0) Try.underlying45 hi hz0 .i64 .i64 n n (by omega) (by omega) (by rw [hz2]; omega) (by omega)
  rw [hz1, Nat.mul_one, Int.toNat_natCast, made_rows] at h
  exact h
end Go.Proofs.Ytpkfcbbnfhjjlaa.Ix
