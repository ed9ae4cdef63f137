/- Words for values in memory, as Mem has them for bytes; entries of a hash (a fingerprint and a block) as cells; which shelves are right. No function of the program is named. -/
import Derived.Test.YtkhimoclikhlaaaMemLow
namespace Go.Proofs.Ytkhimoclikhlaaa.Sf
open Go.RowKit Go.Proofs.Ytkhimoclikhlaaa.Oct
set_option linter.unusedVariables false

/-- The values vs stand in block b from cell o on. -/
def HasV (w : World) (b o : Nat) (vs : List Value) : Prop := ∀ i (h : i < vs.length), w.cell? ⟨b, o + i, none⟩ = some vs[i]
def ToldV (w : World) (a : Option Addr) (vs : List Value) : Prop := vs = [] ∨ ∃ b o, a = some ⟨b, o, none⟩ ∧ HasV w b o vs
/-- Block g is vs, and nothing else; its type is T. -/
def RowV (w : World) (g : Nat) (T : TypeId) (vs : List Value) : Prop := w.heap[g]? = some (.cells vs.toArray T (0, 0))

theorem HasV.told {w : World} {b o : Nat} {vs : List Value} (h : HasV w b o vs) : ToldV w (some ⟨b, o, none⟩) vs := .inr ⟨b, o, rfl, h⟩
theorem HasV.below {w w' : World} {b o B : Nat} {vs : List Value} (h : HasV w b o vs) (hb : b < B) (k : Below B w w') : HasV w' b o vs := fun i hi => (k.cell hb).trans (h i hi)
theorem HasV.still {w w' : World} {b o : Nat} {vs : List Value} (h : HasV w b o vs) (S : Still w w') : HasV w' b o vs := fun i hi => (S.cell _).trans (h i hi)
theorem HasV.lt {w : World} {b o : Nat} {vs : List Value} (h : HasV w b o vs) (h0 : 0 < vs.length) : b < w.heap.size := World.block_lt_of_cell? w _ (h 0 h0)
theorem HasV.cellAt {w : World} {b o i : Nat} {vs : List Value} {v : Value} (h : HasV w b o vs) (hv : vs[i]? = some v) : w.cell? ⟨b, o + i, none⟩ = some v := by
  obtain ⟨hi, e⟩ := List.getElem?_eq_some_iff.1 hv
  rw [← e]
  exact h i hi
theorem HasV.cut {w : World} {b o : Nat} {vs : List Value} (h : HasV w b o vs) (p s : Nat) : HasV w b (o + p) ((vs.drop p).take s) := by
  intro i hi
  simp only [List.length_take, List.length_drop] at hi
  have := h (p + i) (by omega)
  rw [Nat.add_assoc, this]
  simp
theorem HasV.pre {w : World} {b o : Nat} {vs : List Value} (h : HasV w b o vs) (s : Nat) : HasV w b o (vs.take s) := by
  have := h.cut 0 s
  rwa [Nat.add_zero, List.drop_zero] at this
theorem HasV.from {w : World} {b o : Nat} {vs : List Value} (h : HasV w b o vs) (p : Nat) : HasV w b (o + p) (vs.drop p) := by
  have := h.cut p (vs.length - p)
  rwa [List.take_of_length_le (by simp)] at this
theorem ToldV.below {w w' : World} {a : Option Addr} {vs : List Value} (h : ToldV w a vs) (k : Below w.heap.size w w') : ToldV w' a vs := by
  rcases h with h | ⟨b, o, rfl, h⟩
  · exact .inl h
  · by_cases h0 : 0 < vs.length
    · exact .inr ⟨b, o, rfl, h.below (h.lt h0) k⟩
    · exact .inl (List.eq_nil_of_length_eq_zero (by omega))
theorem ToldV.still {w w' : World} {a : Option Addr} {vs : List Value} (h : ToldV w a vs) (S : Still w w') : ToldV w' a vs := by
  rcases h with h | ⟨b, o, rfl, h⟩
  · exact .inl h
  · exact .inr ⟨b, o, rfl, h.still S⟩
theorem ToldV.has {w : World} {a : Option Addr} {vs : List Value} (h : ToldV w a vs) (h0 : 0 < vs.length) : ∃ b o, a = some ⟨b, o, none⟩ ∧ HasV w b o vs := by
  rcases h with h | h
  · subst h; simp at h0
  · exact h

theorem RowV.has {w : World} {g : Nat} {T : TypeId} {vs : List Value} (h : RowV w g T vs) : HasV w g 0 vs := by
  intro i hi
  unfold RowV at h
  simp [World.cell?, h, hi]
theorem RowV.cellAt {w : World} {g i : Nat} {T : TypeId} {vs : List Value} {v : Value} (h : RowV w g T vs) (hv : vs[i]? = some v) : w.cell? ⟨g, i, none⟩ = some v := by
  have := h.has.cellAt hv
  rwa [Nat.zero_add] at this
theorem RowV.free {w : World} {g : Nat} {T : TypeId} {vs : List Value} (h : RowV w g T vs) (i : Nat) : w.frozen? ⟨g, i, none⟩ = false := by
  unfold RowV at h
  simp [World.frozen?, h]
theorem RowV.lt {w : World} {g : Nat} {T : TypeId} {vs : List Value} (h : RowV w g T vs) : g < w.heap.size := (Array.getElem?_eq_some_iff.1 h).1
theorem RowV.still {w w' : World} {g : Nat} {T : TypeId} {vs : List Value} (h : RowV w g T vs) (hs : Still w w') : RowV w' g T vs := by
  unfold RowV at h ⊢
  rw [hs.heap, h]
theorem RowV.below {w w' : World} {g B : Nat} {T : TypeId} {vs : List Value} (h : RowV w g T vs) (hg : g < B) (k : Below B w w') : RowV w' g T vs := by
  unfold RowV at h ⊢
  rw [k.block g hg, h]
theorem RowV.block {w w' : World} {g : Nat} {T : TypeId} {vs : List Value} (h : RowV w g T vs) (k : w'.heap[g]? = w.heap[g]?) : RowV w' g T vs := by
  unfold RowV at h ⊢
  rw [k, h]
theorem RowV.set {w : World} {g : Nat} {T : TypeId} {vs : List Value} (h : RowV w g T vs) (i : Nat) (v : Value) : RowV (w.setCell ⟨g, i, none⟩ v) g T (vs.set i v) := by
  unfold RowV at h ⊢
  rw [heap_setCell_same w g i _ _ _ h]
  simp
theorem RowV.other {w : World} {g q i : Nat} {T : TypeId} {vs : List Value} {v : Value} (h : RowV w g T vs) (hq : g ≠ q) : RowV (w.setCell ⟨q, i, none⟩ v) g T vs := by
  unfold RowV at h ⊢
  rw [heap_setCell_other _ _ _ _ (by exact hq), h]
theorem alloc_rowV (w : World) (T : TypeId) (vs : List Value) : RowV (w.alloc (.cells vs.toArray T)) w.heap.size T vs := heap_alloc_new w _

/-! ### Entries -/
abbrev Ent := UInt64 × UInt32
def evals : List Ent → List Value
  | [] => []
  | e :: es => .int .u64 (e.1.toNat : Int) :: .int .u32 (e.2.toNat : Int) :: evals es
theorem length_evals (es : List Ent) : (evals es).length = 2 * es.length := by
  induction es with
  | nil => rfl
  | cons e es ih => simp [evals, ih]; omega
theorem evals_print (es : List Ent) (i : Nat) (h : i < es.length) : (evals es)[2 * i]? = some (.int .u64 (es[i].1.toNat : Int)) := by
  induction es generalizing i with
  | nil => simp at h
  | cons e es ih =>
    cases i with
    | zero => rfl
    | succ i =>
      rw [show 2 * (i + 1) = 2 * i + 1 + 1 by omega]
      simp only [evals, List.getElem?_cons_succ, List.getElem_cons_succ]
      exact ih i (by simpa using h)
theorem evals_block (es : List Ent) (i : Nat) (h : i < es.length) : (evals es)[2 * i + 1]? = some (.int .u32 (es[i].2.toNat : Int)) := by
  induction es generalizing i with
  | nil => simp at h
  | cons e es ih =>
    cases i with
    | zero => rfl
    | succ i =>
      rw [show 2 * (i + 1) + 1 = 2 * i + 1 + 1 + 1 by omega]
      simp only [evals, List.getElem?_cons_succ, List.getElem_cons_succ]
      exact ih i (by simpa using h)
theorem evals_append (xs ys : List Ent) : evals (xs ++ ys) = evals xs ++ evals ys := by
  induction xs with
  | nil => rfl
  | cons x xs ih => simp [evals, ih]
theorem evals_take (es : List Ent) (k : Nat) : (evals es).take (2 * k) = evals (es.take k) := by
  induction es generalizing k with
  | nil => simp [evals]
  | cons e es ih =>
    cases k with
    | zero => rfl
    | succ k =>
      rw [show 2 * (k + 1) = 2 * k + 1 + 1 by omega]
      simp only [evals, List.take_succ_cons, ih]
theorem evals_drop (es : List Ent) (k : Nat) : (evals es).drop (2 * k) = evals (es.drop k) := by
  induction es generalizing k with
  | nil => simp [evals]
  | cons e es ih =>
    cases k with
    | zero => rfl
    | succ k =>
      rw [show 2 * (k + 1) = 2 * k + 1 + 1 by omega]
      simp only [evals, List.drop_succ_cons, ih]
theorem evals_set (es : List Ent) (k : Nat) (e : Ent) : ((evals es).set (2 * k) (.int .u64 (e.1.toNat : Int))).set (2 * k + 1) (.int .u32 (e.2.toNat : Int)) = evals (es.set k e) := by
  induction es generalizing k with
  | nil => simp [evals]
  | cons x es ih =>
    cases k with
    | zero => rfl
    | succ k =>
      rw [show 2 * (k + 1) = 2 * k + 1 + 1 by omega, show 2 * k + 1 + 1 + 1 = (2 * k + 1) + 1 + 1 by omega]
      simp only [evals, List.set_cons_succ, ih]
theorem evals_nil_iff {es : List Ent} : evals es = [] ↔ es = [] := by cases es <;> simp [evals]

/-- A slice's entries are told. -/
structure Sh (w : World) (A : Option Addr) (n c : Nat) (es : List Ent) : Prop where
  el : es.length = n
  kc : n ≤ c
  km : c ≤ maxLen
  es : ToldV w A (evals es)
theorem Sh.below {w w' : World} {A : Option Addr} {n c : Nat} {es : List Ent} (h : Sh w A n c es) (k : Below w.heap.size w w') : Sh w' A n c es := ⟨h.el, h.kc, h.km, h.es.below k⟩
theorem Sh.boxed {w : World} {A : Option Addr} {n c : Nat} {es : List Ent} (h : Sh w A n c es) (o : Obj) : Sh (w.alloc o) A n c es := h.below ((Below.refl _ _).alloc (Nat.le_refl _) _)
theorem Sh.still {w w' : World} {A : Option Addr} {n c : Nat} {es : List Ent} (h : Sh w A n c es) (S : Still w w') : Sh w' A n c es := ⟨h.el, h.kc, h.km, h.es.still S⟩
/-- The entry at k, as it stands. -/
theorem Sh.at {w : World} {A : Option Addr} {n c k : Nat} {es : List Ent} (h : Sh w A n c es) (hk : k < n) :
    ∃ b o, A = some ⟨b, o, none⟩ ∧ b < w.heap.size ∧ w.cell? ⟨b, o + k * 2, none⟩ = some (.int .u64 ((es[k]'(by rw [h.el]; exact hk)).1.toNat : Int)) ∧ w.cell? ⟨b, o + k * 2 + 1, none⟩ = some (.int .u32 ((es[k]'(by rw [h.el]; exact hk)).2.toNat : Int)) := by
  have hl := length_evals es
  have he := h.el
  obtain ⟨b, o, rfl, hb⟩ := h.es.has (by omega)
  refine ⟨b, o, rfl, hb.lt (by omega), ?_, ?_⟩
  · rw [Nat.mul_comm]; exact hb.cellAt (evals_print es k (by omega))
  · rw [Nat.mul_comm, Nat.add_assoc]; exact hb.cellAt (evals_block es k (by omega))

/-! ### Which shelves are right -/
def okBlock (e : Ent) : Prop := 1 ≤ e.2.toNat ∧ e.2.toNat < 4096
instance (e : Ent) : Decidable (okBlock e) := by unfold okBlock; infer_instance
def Blocks (es : List Ent) : Prop := ∀ e ∈ es, okBlock e
instance (es : List Ent) : Decidable (Blocks es) := by unfold Blocks; infer_instance
def lt (a b : Ent) : Prop := a.1.toNat < b.1.toNat ∨ (a.1.toNat = b.1.toNat ∧ a.2.toNat < b.2.toNat)
instance (a b : Ent) : Decidable (lt a b) := by unfold lt; infer_instance
def Rises : List Ent → Prop
  | a :: b :: es => lt a b ∧ Rises (b :: es)
  | _ => True
def decRises : (es : List Ent) → Decidable (Rises es)
  | [] => .isTrue trivial
  | [_] => .isTrue trivial
  | a :: b :: es => by
    have := decRises (b :: es)
    unfold Rises
    infer_instance
instance (es : List Ent) : Decidable (Rises es) := decRises es
/-- All fingerprints have the same first bits, d of them. -/
def AlikeTo (d : Nat) (x : UInt64) (es : List Ent) : Prop := ∀ e ∈ es, e.1.toNat / 2 ^ (64 - d) = x.toNat / 2 ^ (64 - d)
instance (d : Nat) (x : UInt64) (es : List Ent) : Decidable (AlikeTo d x es) := by unfold AlikeTo; infer_instance
def Alike (d : Nat) : List Ent → Prop
  | [] => True
  | e :: es => AlikeTo d e.1 (e :: es)
instance (d : Nat) (es : List Ent) : Decidable (Alike d es) := by cases es <;> unfold Alike <;> infer_instance
def Fit (d : UInt8) (nx : UInt32) (es : List Ent) : Prop := d.toNat ≤ 64 ∧ nx.toNat < 4096 ∧ es.length ≤ 9 ∧ Blocks es ∧ Rises es ∧ Alike d.toNat es
instance (d : UInt8) (nx : UInt32) (es : List Ent) : Decidable (Fit d nx es) := by unfold Fit; infer_instance

theorem blocks_snoc (es : List Ent) (k : Nat) (h : k < es.length) : Blocks (es.take (k + 1)) ↔ Blocks (es.take k) ∧ okBlock es[k] := by
  rw [List.take_succ_eq_append_getElem h]
  unfold Blocks
  simp only [List.mem_append, List.mem_singleton]
  exact ⟨fun H => ⟨fun e he => H e (.inl he), H _ (.inr rfl)⟩, fun H e he => he.elim (H.1 e) (fun h => h ▸ H.2)⟩
theorem blocks_no (es : List Ent) (k : Nat) (h : k < es.length) (hn : ¬ okBlock es[k]) : ¬ Blocks es := fun H => hn (H _ (List.getElem_mem h))
theorem rises_iff (es : List Ent) : Rises es ↔ ∀ i (h : i + 1 < es.length), lt es[i] es[i + 1] := by
  induction es with
  | nil => exact ⟨fun _ i h => by simp at h, fun _ => trivial⟩
  | cons a es ih =>
    cases es with
    | nil => exact ⟨fun _ i h => by simp at h, fun _ => trivial⟩
    | cons b es =>
      unfold Rises
      rw [ih]
      constructor
      · intro ⟨h1, h2⟩ i hi
        cases i with
        | zero => exact h1
        | succ i => exact h2 i (by simpa using hi)
      · intro H
        exact ⟨H 0 (by simp), fun i hi => H (i + 1) (by simpa using hi)⟩
theorem rises_snoc (es : List Ent) (k : Nat) (h : k + 1 < es.length) : Rises (es.take (k + 2)) ↔ Rises (es.take (k + 1)) ∧ lt es[k] es[k + 1] := by
  rw [rises_iff, rises_iff]
  constructor
  · intro H
    refine ⟨fun i hi => ?_, ?_⟩
    · simp only [List.length_take] at hi
      have := H i (by simp; omega)
      simpa using this
    · have := H k (by simp; omega)
      simpa using this
  · intro ⟨H1, H2⟩ i hi
    simp only [List.length_take] at hi
    by_cases e : i = k
    · subst e
      simpa using H2
    · have := H1 i (by simp; omega)
      simpa using this
theorem rises_no (es : List Ent) (k : Nat) (h : k + 1 < es.length) (hn : ¬ lt es[k] es[k + 1]) : ¬ Rises es := fun H => hn ((rises_iff es).1 H k h)
theorem rises_one (es : List Ent) : Rises (es.take 1) := by cases es <;> exact trivial
theorem alikeTo_snoc (d : Nat) (x : UInt64) (es : List Ent) (k : Nat) (h : k < es.length) : AlikeTo d x (es.take (k + 1)) ↔ AlikeTo d x (es.take k) ∧ es[k].1.toNat / 2 ^ (64 - d) = x.toNat / 2 ^ (64 - d) := by
  rw [List.take_succ_eq_append_getElem h]
  unfold AlikeTo
  simp only [List.mem_append, List.mem_singleton]
  exact ⟨fun H => ⟨fun e he => H e (.inl he), H _ (.inr rfl)⟩, fun H e he => he.elim (H.1 e) (fun h => h ▸ H.2)⟩
theorem alike_iff (d : Nat) (es : List Ent) (h : 0 < es.length) : Alike d es ↔ AlikeTo d es[0].1 es := by
  cases es with
  | nil => simp at h
  | cons e es => exact Iff.rfl
theorem alike_nil (d : Nat) (es : List Ent) (h : ¬ 0 < es.length) : Alike d es := by
  cases es with
  | nil => trivial
  | cons e es => simp at h
theorem xor_test (a b : UInt64) (s : Nat) : (a.toNat ^^^ b.toNat) / 2 ^ s = 0 ↔ a.toNat / 2 ^ s = b.toNat / 2 ^ s := by
  rw [← Nat.shiftRight_eq_div_pow, ← Nat.shiftRight_eq_div_pow, ← Nat.shiftRight_eq_div_pow, Nat.shiftRight_xor_distrib]
  generalize a.toNat >>> s = x
  generalize b.toNat >>> s = y
  exact ⟨fun h => by rw [← Nat.xor_zero x, ← Nat.xor_self y, ← Nat.xor_assoc, h, Nat.zero_xor], fun h => by rw [h, Nat.xor_self]⟩
end Go.Proofs.Ytkhimoclikhlaaa.Sf
