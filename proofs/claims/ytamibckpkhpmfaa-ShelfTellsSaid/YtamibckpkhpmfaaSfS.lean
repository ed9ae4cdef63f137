/- Mathematics and memory for ShelfHalves. -/
import Derived.Test.YtamibckpkhpmfaaSfN
import Derived.RegionTactic
import Derived.Deep.DeepCutAuto
import Derived.Deep.RegionLaw
import Derived.Deep.AppendLies
namespace Go.Proofs.Ytamibckpkhpmfaa.Sf
open Go.RowKit Go.Proofs.Ytamibckpkhpmfaa.Oct
set_option linter.unusedVariables false

theorem alike_sub {d : Nat} {es fs : List Ent} (h : Alike d es) (hs : ∀ x ∈ fs, x ∈ es) : Alike d fs := by
  cases fs with
  | nil => trivial
  | cons f fs =>
    cases es with
    | nil => exact absurd (hs f (by simp)) (by simp)
    | cons e es =>
      intro x hx
      rw [h x (hs x hx), h f (hs f (by simp))]
theorem rises_take {es : List Ent} (h : Rises es) (k : Nat) : Rises (es.take k) := by
  rw [rises_iff] at h ⊢
  intro i hi
  simp only [List.length_take] at hi
  have := h i (by omega)
  simpa using this
theorem rises_drop {es : List Ent} (h : Rises es) (k : Nat) : Rises (es.drop k) := by
  rw [rises_iff] at h ⊢
  intro i hi
  simp only [List.length_drop] at hi
  have := h (k + i) (by omega)
  simpa [Nat.add_assoc] using this
theorem fit_take {d : UInt8} {nx : UInt32} {es : List Ent} (h : Fit d nx es) (k : Nat) : Fit d nx (es.take k) :=
  ⟨h.1, h.2.1, by have := h.2.2.1; simp; omega, fun e he => h.2.2.2.1 e (List.mem_of_mem_take he), rises_take h.2.2.2.2.1 k, alike_sub h.2.2.2.2.2 fun e he => List.mem_of_mem_take he⟩
theorem fit_drop {d : UInt8} {nx : UInt32} {es : List Ent} (h : Fit d nx es) (k : Nat) : Fit d nx (es.drop k) :=
  ⟨h.1, h.2.1, by have := h.2.2.1; simp; omega, fun e he => h.2.2.2.1 e (List.mem_of_mem_drop he), rises_drop h.2.2.2.2.1 k, alike_sub h.2.2.2.2.2 fun e he => List.mem_of_mem_drop he⟩
theorem lt_trans' {a b c : Ent} (h : lt a b) (k : lt b c) : lt a c := by unfold lt at *; omega
theorem rises_lt {es : List Ent} (h : Rises es) : ∀ (i j : Nat) (hi : i < es.length) (hj : j < es.length), i < j → lt es[i] es[j] := by
  intro i j hi hj hij
  induction j with
  | zero => omega
  | succ j ih =>
    have h2 := (rises_iff es).1 h j hj
    by_cases e : i = j
    · subst e; exact h2
    · exact lt_trans' (ih (by omega) (by omega)) h2
theorem swap_no {d : UInt8} {nx : UInt32} {es : List Ent} (h : Fit d nx es) (k : Nat) (h0 : 0 < k) (hn : k < es.length) : ¬ Fit d nx (es.drop k ++ es.take k) := fun hf => by
  have h1 := rises_lt h.2.2.2.2.1 0 (es.length - 1) (by omega) (by omega) (by omega)
  have h2 := rises_lt hf.2.2.2.2.1 0 (es.length - 1) (by simp; omega) (by simp; omega) (by omega)
  have e1 : (es.drop k ++ es.take k)[0]'(by simp; omega) = es[k] := by
    rw [List.getElem_append_left (by simp; omega)]; simp
  have e2 : (es.drop k ++ es.take k)[es.length - 1]'(by simp; omega) = es[k - 1] := by
    rw [List.getElem_append_right (by simp; omega)]
    simp only [List.length_drop, List.getElem_take]
    congr 1
    omega
  rw [e1, e2] at h2
  have h3 := rises_lt h.2.2.2.2.1 (k - 1) k (by omega) hn (by omega)
  unfold lt at h2 h3
  omega
theorem swap_yes {d : UInt8} {nx : UInt32} {es : List Ent} (h : Fit d nx es) (k : Nat) (hk : k = 0 ∨ k = es.length) : Fit d nx (es.drop k ++ es.take k) := by
  rcases hk with rfl | rfl
  · simpa using h
  · simpa using h

/-! ### Parts of a slice of entries -/
theorem Sh.pre {w : World} {A : Option Addr} {n c : Nat} {es : List Ent} (h : Sh w A n c es) (k : Nat) (hk : k ≤ n) : Sh w A k c (es.take k) :=
  ⟨by rw [List.length_take, h.el]; omega, Nat.le_trans hk h.kc, h.km, by
    rw [← evals_take]
    rcases h.es with he | ⟨b, o, rfl, he⟩
    · exact .inl (by rw [he]; simp)
    · exact .inr ⟨b, o, rfl, he.pre _⟩⟩
theorem ent_size (w : World) : (Go.sizeOf 40).run Try.prog w = .ok 2 w := by kernel_rfl
theorem run_head {w0 : World} {A : Option Addr} {n c : Nat} {es : List Ent} (h : Sh w0 A n c es) (k : Nat) (hk : k ≤ n) (w : World) :
    (Instr.slice 23 (.slice A n c) none (some (.int .i64 (k : Int))) none).run Try.prog w = .ok (.slice A k c) w := by
  have hc := h.kc
  have hm := h.km
  unfold maxLen at hm
  have ht : Try.prog.underlying 23 = some (.slice (Try.prog.elem 23)) := by simp [Program.elem, Try.underlying23]
  have he : Try.prog.elem 23 = 40 := by simp [Program.elem, Try.underlying23]
  rw [run_slice_h w 23 A n c ht .i64 (k : Int) (by omega) (by omega), he, ent_size]
  cases A <;> simp [Result.andThen, sliced, Addr.add]
theorem run_tail {w0 : World} {A : Option Addr} {n c : Nat} {es : List Ent} (h : Sh w0 A n c es) (hnil : A = none → c = 0) (k : Nat) (hk : k ≤ n) :
    ∃ A', (∀ w, (Instr.slice 23 (.slice A n c) (some (.int .i64 (k : Int))) none none).run Try.prog w = .ok (.slice A' (n - k) (c - k)) w) ∧
      (∀ w, Sh w A n c es → Sh w A' (n - k) (c - k) (es.drop k)) ∧ (A' = none → c - k = 0) := by
  have hc := h.kc
  have hm := h.km
  unfold maxLen at hm
  have ht : Try.prog.underlying 23 = some (.slice (Try.prog.elem 23)) := by simp [Program.elem, Try.underlying23]
  have he : Try.prog.elem 23 = 40 := by simp [Program.elem, Try.underlying23]
  have key : ∀ w, (Instr.slice 23 (.slice A n c) (some (.int .i64 (k : Int))) none none).run Try.prog w = .ok (.slice (if c = k then A else A.map (·.add (k * 2))) (n - k) (c - k)) w := fun w => by
    rw [run_slice_l w 23 A n c ht .i64 (k : Int) (by omega) (by omega), he, ent_size]
    simp only [Result.andThen, sliced, Int.toNat_natCast]
  refine ⟨_, key, fun w hw => ⟨by rw [List.length_drop, hw.el], by omega, by unfold maxLen; omega, ?_⟩, fun h0 => ?_⟩
  rotate_left
  · split at h0
    · omega
    · cases A with
      | none => have := hnil rfl; omega
      | some x => simp at h0
  by_cases hck : c = k
  · left
    rw [List.drop_of_length_le (by rw [hw.el]; omega)]
    rfl
  · rw [if_neg hck, ← evals_drop]
    rcases hw.es with he | ⟨b, o, rfl, he⟩
    · exact .inl (by rw [he]; simp)
    · refine .inr ⟨b, o + k * 2, ?_, ?_⟩
      · rw [Option.map_some, add_plain]
      · have := he.from (2 * k)
        rw [Nat.mul_comm 2 k] at this ⊢
        exact this

/-! ### Appends -/
theorem run_append_told (w : World) (ty : TypeId) (base : Nat) (v : Value) (xs ys : List Ent) (hown : OwnE w base v xs) (A : Option Addr) (m c : Nat) (hT : Sh w A m c ys) (hnil : A = none → c = 0)
    (hsz : xs.length + m ≤ 1000000) (hbase : base ≤ w.heap.size) :
    ∃ v' w', (Builtin.append_ #[23, 23] ty #[v, .slice A m c]).run Try.prog w = .ok v' w' ∧ OwnE w' base v' (xs ++ ys) ∧ Below base w w' := by
  obtain ⟨i0, hi, hz0, hz1, hz2⟩ := info_parts ent_info
  cases A with
  | none =>
    have hy : ys = [] := by
      rcases hT.es with h | ⟨b, o, h, _⟩
      · exact evals_nil_iff.1 h
      · cases h
    subst hy
    obtain rfl : m = 0 := by simpa using hT.el.symm
    rw [hnil rfl]
    exact ⟨v, w, run_append_owned_none (P := Try.prog) (w := w) base 23 ty 40 i0 2 Try.underlying23 hi v _ _ hown, by simpa using hown, Below.refl _ _⟩
  | some x =>
    have hnews : ∀ j u, (evals ys)[j]? = some u → w.cell? (x.add j) = some u := fun j u hj => by
      rcases hT.es with h | ⟨b, o, h, k⟩
      · rw [h] at hj; simp at hj
      · cases h
        rw [add_plain]
        exact k.cellAt hj
    obtain ⟨v', w', hr, ho, hg, _⟩ := run_append_own (P := Try.prog) w base 23 ty 40 i0 (.agg #[.int .u64 0, .int .u32 0]) 2 16 Try.underlying23 hi hz0 hz1 hz2 rfl (by omega) v xs.length (evals xs) hown x m c (evals ys)
      (by rw [length_evals, hT.el, Nat.mul_comm]) hnews (evals_one ys) (by unfold maxLen; omega) (by omega) hbase
    refine ⟨v', w', hr, ?_, ⟨hg.os, hg.tape, hg.output, hg.size, fun k hk => hg.block k (by omega) (fun e => ?_)⟩⟩
    · unfold OwnE
      rw [List.length_append, hT.el, evals_append]
      exact ho
    · have := (World.ownsRow.lt hown k e.symm).1
      omega
theorem step_ents {ops : Array Oper} {o : Oper} {a : Act} {w : World} {K : Act → World → Prop} {Q : Exit → Act → World → Prop} {E : Prop} (hgd : o.guard = none) (s x : Operand)
    (ho : o.op = .call { callee := .builtin .append, args := #[s, x], argTypes := #[23, 23] }) {base m c : Nat} {v0 : Value} {A : Option Addr} {xs ys : List Ent} (hs : a.eval s = v0) (hx : a.eval x = .slice A m c)
    (N : Nat) (zs : List Ent) (hz : xs ++ ys = zs) (hN : zs.length = N) (h0 : OwnE w base v0 xs) (h2 : Sh w A m c ys) (hnil : A = none → c = 0) (hb : xs.length + m ≤ 1000000) (hbase : base ≤ w.heap.size)
    (h : ∀ A' c' w', OwnE w' base (.slice A' N c') zs → Below base w w' → K (a.put o.dst (.slice A' N c')) w') : if Region.wanted o (yielded ops a.tmps) = true then Oper.wp Try.prog o a w K Q else E := by
  have hw : Region.wanted o (yielded ops a.tmps) = true := by simp [Region.wanted, hgd]
  rw [if_pos hw]
  obtain ⟨v', w', hrun, ho', hb'⟩ := run_append_told w o.type base v0 xs ys h0 A m c h2 hnil hb hbase
  rw [hz] at ho'
  obtain ⟨A', c', rfl, _⟩ := ho'.slice
  rw [hN] at hrun ho'
  unfold Oper.wp
  simp [execOp, ho, resolve, invoke, builtin, hs, hx, hrun, Result.andThen]
  exact h _ _ _ ho' hb'
theorem own_bare (w : World) : OwnE (w.alloc (.cells #[] 40)) w.heap.size (.slice (some ⟨w.heap.size, 0, none⟩) 0 0) [] := World.ownsRow_made w #[] 0 (Nat.le_refl _) (Nat.zero_le _) rfl
theorem OwnE.beside {w : World} {base N c p i : Nat} {A : Option Addr} {zs : List Ent} {v : Value} (h : OwnE w base (.slice A N c) zs) (hN : zs.length = N) (hp : p < base) : Sh (w.setCell ⟨p, i, none⟩ v) A N c zs := by
  subst hN
  have h2 := h.2
  obtain ⟨A', c', e, hs⟩ := h.slice
  cases e
  refine ⟨rfl, hs.kc, hs.km, ?_⟩
  rcases h2 with ⟨e, h0⟩ | ⟨g, cap, cur, e, hb, hg, _⟩
  · have : zs = [] := List.eq_nil_of_length_eq_zero h0
    subst this
    exact .inl rfl
  · cases e
    rcases hs.es with h | ⟨b, o, h, k⟩
    · exact .inl h
    · cases h
      refine HasV.told (b := g) (o := 0) fun j hj => ?_
      have hne : (⟨p, i, none⟩ : Addr) ≠ ⟨g, 0 + j, none⟩ := fun e => by have := (Addr.mk.inj e).1; omega
      rw [World.cell?_setCell_other _ _ _ _ hne]
      exact k j hj
end Go.Proofs.Ytamibckpkhpmfaa.Sf
