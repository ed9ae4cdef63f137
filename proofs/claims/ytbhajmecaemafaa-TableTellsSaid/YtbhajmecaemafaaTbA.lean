/- Words for values in memory; a block's bytes as a map's key; the datum of a map of pairs; which lists of pairs are right; which are unlike. No function of the program is named. -/
import Derived.Test.YtbhajmecaemafaaMemLow
import Derived.DeepKeys4
import Derived.Maps.OwnSet
import Derived.Maps.RangeWalk
import Derived.Maps.Ext
namespace Go.Proofs.Ytbhajmecaemafaa.Tb
open Go.RowKit Go.Proofs.Ytbhajmecaemafaa.Oct Go.Maps
set_option linter.unusedVariables false

/-- The values vs stand in block b from cell o on. -/
def HasV (w : World) (b o : Nat) (vs : List Value) : Prop := ∀ i (h : i < vs.length), w.cell? ⟨b, o + i, none⟩ = some vs[i]
def ToldV (w : World) (a : Option Addr) (vs : List Value) : Prop := vs = [] ∨ ∃ b o, a = some ⟨b, o, none⟩ ∧ HasV w b o vs
/-- Block g is vs, and nothing else; its type is T. -/
def RowV (w : World) (g : Nat) (T : TypeId) (vs : List Value) : Prop := w.heap[g]? = some (.cells vs.toArray T (0, 0))

theorem HasV.told {w : World} {b o : Nat} {vs : List Value} (h : HasV w b o vs) : ToldV w (some ⟨b, o, none⟩) vs := .inr ⟨b, o, rfl, h⟩
theorem HasV.below {w w' : World} {b o B : Nat} {vs : List Value} (h : HasV w b o vs) (hb : b < B) (k : Below B w w') : HasV w' b o vs := fun i hi => (k.cell hb).trans (h i hi)
theorem HasV.still {w w' : World} {b o : Nat} {vs : List Value} (h : HasV w b o vs) (S : Still w w') : HasV w' b o vs := fun i hi => (S.cell _).trans (h i hi)
theorem HasV.lt {w : World} {b o : Nat} {vs : List Value} (h : HasV w b o vs) (h0 : 0 < vs.length) : b < w.heap.size := World.block_lt_of_cell? w _ (h 0 h0)
theorem HasV.cellAt {w : World} {b o i : Nat} {vs : List Value} {v : Value} (h : HasV w b o vs) (hv : vs[i]? = some v) : w.cell? ⟨b, o + i, none⟩ = some v := by
  obtain ⟨hi, e⟩ := List.getElem?_eq_some_iff.1 hv
  rw [← e]
  exact h i hi
theorem HasV.cut {w : World} {b o : Nat} {vs : List Value} (h : HasV w b o vs) (p s : Nat) : HasV w b (o + p) ((vs.drop p).take s) := by
  intro i hi
  simp only [List.length_take, List.length_drop] at hi
  have := h (p + i) (by omega)
  rw [Nat.add_assoc, this]
  simp
theorem HasV.pre {w : World} {b o : Nat} {vs : List Value} (h : HasV w b o vs) (s : Nat) : HasV w b o (vs.take s) := by
  have := h.cut 0 s
  rwa [Nat.add_zero, List.drop_zero] at this
theorem HasV.from {w : World} {b o : Nat} {vs : List Value} (h : HasV w b o vs) (p : Nat) : HasV w b (o + p) (vs.drop p) := by
  have := h.cut p (vs.length - p)
  rwa [List.take_of_length_le (by simp)] at this
theorem ToldV.below {w w' : World} {a : Option Addr} {vs : List Value} (h : ToldV w a vs) (k : Below w.heap.size w w') : ToldV w' a vs := by
  rcases h with h | ⟨b, o, rfl, h⟩
  · exact .inl h
  · by_cases h0 : 0 < vs.length
    · exact .inr ⟨b, o, rfl, h.below (h.lt h0) k⟩
    · exact .inl (List.eq_nil_of_length_eq_zero (by omega))
theorem ToldV.still {w w' : World} {a : Option Addr} {vs : List Value} (h : ToldV w a vs) (S : Still w w') : ToldV w' a vs := by
  rcases h with h | ⟨b, o, rfl, h⟩
  · exact .inl h
  · exact .inr ⟨b, o, rfl, h.still S⟩
theorem ToldV.has {w : World} {a : Option Addr} {vs : List Value} (h : ToldV w a vs) (h0 : 0 < vs.length) : ∃ b o, a = some ⟨b, o, none⟩ ∧ HasV w b o vs := by
  rcases h with h | h
  · subst h; simp at h0
  · exact h

theorem RowV.has {w : World} {g : Nat} {T : TypeId} {vs : List Value} (h : RowV w g T vs) : HasV w g 0 vs := by
  intro i hi
  unfold RowV at h
  simp [World.cell?, h, hi]
theorem RowV.cellAt {w : World} {g i : Nat} {T : TypeId} {vs : List Value} {v : Value} (h : RowV w g T vs) (hv : vs[i]? = some v) : w.cell? ⟨g, i, none⟩ = some v := by
  have := h.has.cellAt hv
  rwa [Nat.zero_add] at this
theorem RowV.free {w : World} {g : Nat} {T : TypeId} {vs : List Value} (h : RowV w g T vs) (i : Nat) : w.frozen? ⟨g, i, none⟩ = false := by
  unfold RowV at h
  simp [World.frozen?, h]
theorem RowV.lt {w : World} {g : Nat} {T : TypeId} {vs : List Value} (h : RowV w g T vs) : g < w.heap.size := (Array.getElem?_eq_some_iff.1 h).1
theorem RowV.still {w w' : World} {g : Nat} {T : TypeId} {vs : List Value} (h : RowV w g T vs) (hs : Still w w') : RowV w' g T vs := by
  unfold RowV at h ⊢
  rw [hs.heap, h]
theorem RowV.below {w w' : World} {g B : Nat} {T : TypeId} {vs : List Value} (h : RowV w g T vs) (hg : g < B) (k : Below B w w') : RowV w' g T vs := by
  unfold RowV at h ⊢
  rw [k.block g hg, h]
theorem RowV.block {w w' : World} {g : Nat} {T : TypeId} {vs : List Value} (h : RowV w g T vs) (k : w'.heap[g]? = w.heap[g]?) : RowV w' g T vs := by
  unfold RowV at h ⊢
  rw [k, h]
theorem RowV.set {w : World} {g : Nat} {T : TypeId} {vs : List Value} (h : RowV w g T vs) (i : Nat) (v : Value) : RowV (w.setCell ⟨g, i, none⟩ v) g T (vs.set i v) := by
  unfold RowV at h ⊢
  rw [heap_setCell_same w g i _ _ _ h]
  simp
theorem RowV.other {w : World} {g q i : Nat} {T : TypeId} {vs : List Value} {v : Value} (h : RowV w g T vs) (hq : g ≠ q) : RowV (w.setCell ⟨q, i, none⟩ v) g T vs := by
  unfold RowV at h ⊢
  rw [heap_setCell_other _ _ _ _ (by exact hq), h]
theorem alloc_rowV (w : World) (T : TypeId) (vs : List Value) : RowV (w.alloc (.cells vs.toArray T)) w.heap.size T vs := heap_alloc_new w _


/-! ### A block's bytes as a key -/
theorem laidOut : laidOutB Try.prog = true := by kernel_rfl
theorem block_law : Keyed Try.prog 51 := Keyed.of_law (deep_law_laid laidOut (m := 2) (by omega) (of_decide_eq_true (by kernel_rfl)) (by kernel_rfl) (by rw [Try.underlying51]))
theorem num_law : Keyed Try.prog 23 := int_keyed Try.underlying23
def bval (x : List UInt8) : Value := .agg (vals x).toArray
def blits (x : List UInt8) : List Lit := x.map fun c => .int .u8 (c.toNat : Int)
def bkey (x : List UInt8) : Lit := .string (keyBytes (blits x))

theorem mapM_some_of {α β : Type} {f : α → Option β} {g : α → β} : ∀ (l : List α), (∀ a ∈ l, f a = some (g a)) → l.mapM f = some (l.map g)
  | [], _ => rfl
  | a :: r, h => by
    rw [List.mapM_cons, h a (by simp), mapM_some_of r (fun b hb => h b (by simp [hb]))]
    rfl
theorem byte_wf (c : UInt8) : (Lit.int .u8 (c.toNat : Int)).wf = true := WalkArith.wf_u8 (by have := u8_lt c; omega)
theorem word_wf (c : UInt64) : (Lit.int .u64 (c.toNat : Int)).wf = true := by
  have := c.toNat_lt
  exact WalkArith.wf_u64 (by omega)
theorem keyLits_block (m : Nat) (x : List UInt8) (h : x.length = 128) : Try.prog.keyLits (m + 2) 51 (vals x) = some (blits x) := by
  have c1 : Try.prog.cellsOf 51 = 128 := by kernel_rfl
  have c2 : Try.prog.cellsOf 5 = 1 := by kernel_rfl
  unfold Program.keyLits
  simp only [Try.underlying51]
  rw [if_pos (by rw [length_vals, c1, h]), mapM_some_of (g := fun i => [Lit.int .u8 ((x.getD i 0).toNat : Int)])]
  · simp only [Option.map_some, Option.some.injEq]
    have e : ∀ n, n ≤ x.length → ((List.range n).map fun i => [Lit.int .u8 ((x.getD i 0).toNat : Int)]).flatten = blits (x.take n) := by
      intro n
      induction n with
      | zero => intro _; rfl
      | succ n ih =>
        intro hn
        have : x[n]? = some x[n] := List.getElem?_eq_getElem (by omega)
        rw [List.range_succ, List.map_append, List.flatten_append, ih (by omega), List.take_add_one (l := x), this]
        unfold blits
        rw [List.map_append]
        simp [List.getD, this]
    have := e 128 (by omega)
    rwa [List.take_of_length_le (by omega)] at this
  · intro i hi
    have hi' : i < x.length := by simpa [h] using hi
    unfold Program.keyLits
    simp only [Try.underlying5, c2, Nat.mul_one]
    have e : ((vals x).drop i).take 1 = [Value.int .u8 ((x.getD i 0).toNat : Int)] := by
      rw [List.drop_eq_getElem_cons (by rw [length_vals]; exact hi')]
      simp [vals, List.getD, hi']
    rw [e]
    simp [byte_wf]
theorem bkey_of (x : List UInt8) (h : x.length = 128) : keyOf Try.prog 51 (bval x) = some (bkey x) := by
  have k1 : Try.prog.keyType 51 = true := by kernel_rfl
  have k2 : Try.prog.types.size = 71 + 2 := by kernel_rfl
  have c1 : Try.prog.cellsOf 51 = 128 := by kernel_rfl
  unfold keyOf
  simp only [Try.underlying51, k1, Bool.true_and]
  rw [if_pos]
  · have e : (bval x).cells.toList = vals x := by simp [bval, Value.cells]
    rw [e, k2, show 71 + 2 + 1 = 72 + 2 from rfl, keyLits_block 72 x h]
    rfl
  · simp [Value.formed, bval, Try.underlying51, c1, length_vals, h]
theorem vals_inj {x y : List UInt8} (h : vals x = vals y) : x = y := by
  refine List.map_inj_right (f := fun c : UInt8 => Value.int .u8 (c.toNat : Int)) (fun a b e => ?_) |>.1 h
  simp only [Value.int.injEq, true_and] at e
  exact UInt8.toNat_inj.1 (by omega)
theorem bval_inj {x y : List UInt8} (h : bval x = bval y) : x = y := by
  simp only [bval, Value.agg.injEq] at h
  exact vals_inj (by simpa using h)
theorem bkey_inj {x y : List UInt8} (hx : x.length = 128) (hy : y.length = 128) (h : bkey x = bkey y) : x = y :=
  bval_inj (block_law.inj (bkey_of x hx) (by rw [h]; exact bkey_of y hy))
theorem bkey_key {x : List UInt8} (hx : x.length = 128) : WideAt.IsKeyLit (bkey x) := block_law.key (bkey_of x hx)

/-! ### Pairs -/
abbrev Pr := List UInt8 × UInt64
def pdat (c : UInt64) : DataW Unit := .lit (.int .u64 (c.toNat : Int))
theorem pdat_inj {a b : UInt64} (h : pdat a = pdat b) : a = b := by
  simp only [pdat, DataW.lit.injEq, Lit.int.injEq, true_and] at h
  exact UInt64.toNat_inj.1 (by omega)
/-- What the map of these pairs reads as. -/
def Dm (ps : List Pr) : DataW Unit := ps.foldl (fun m p => m.put (bkey p.1) (pdat p.2)) (.map [])
theorem Dm_nil : Dm [] = .map [] := rfl
theorem Dm_snoc (ps : List Pr) (p : Pr) : Dm (ps ++ [p]) = (Dm ps).put (bkey p.1) (pdat p.2) := by simp [Dm, List.foldl_append]
/-- All blocks, no two the same. -/
structure Good (ps : List Pr) : Prop where
  len : ∀ p ∈ ps, p.1.length = 128
  nodup : (ps.map (·.1)).Nodup
theorem good_nil : Good [] := ⟨by simp, by simp⟩
def isIn (ps : List Pr) (x : List UInt8) : Bool := ps.any fun p => p.1 == x
def seek (ps : List Pr) (x : List UInt8) : Option UInt64 := (ps.find? fun p => p.1 == x).map (·.2)
theorem isIn_iff {ps : List Pr} {x : List UInt8} : isIn ps x = true ↔ x ∈ ps.map (·.1) := by
  simp [isIn, List.any_eq_true]
theorem seek_some {ps : List Pr} {x : List UInt8} : (seek ps x).isSome = isIn ps x := by
  unfold seek isIn
  rw [Option.isSome_map]
  cases h : ps.any fun p => p.1 == x
  · rw [List.find?_eq_none.2 (fun p hp => by simpa using List.any_eq_false.1 h p hp)]
    rfl
  · obtain ⟨p, hp, e⟩ := List.any_eq_true.1 h
    exact List.find?_isSome.2 ⟨p, hp, e⟩
theorem good_snoc {ps : List Pr} {p : Pr} : Good (ps ++ [p]) ↔ Good ps ∧ p.1.length = 128 ∧ isIn ps p.1 = false := by
  constructor
  · rintro ⟨h1, h2⟩
    rw [List.map_append, List.nodup_append] at h2
    refine ⟨⟨fun q hq => h1 q (by simp [hq]), h2.1⟩, h1 p (by simp), ?_⟩
    cases hi : isIn ps p.1
    · rfl
    · exact absurd rfl (h2.2.2 _ (isIn_iff.1 hi) p.1 (by simp))
  · rintro ⟨⟨h1, h2⟩, h3, h4⟩
    refine ⟨fun q hq => ?_, ?_⟩
    · rcases List.mem_append.1 hq with h | h
      · exact h1 q h
      · obtain rfl : q = p := by simpa using h
        exact h3
    · rw [List.map_append, List.nodup_append]
      refine ⟨h2, by simp, fun a ha b hb e => ?_⟩
      obtain rfl : b = p.1 := by simpa using hb
      subst e
      rw [isIn_iff.2 ha] at h4
      cases h4
theorem good_take {ps : List Pr} (h : Good ps) (k : Nat) : Good (ps.take k) :=
  ⟨fun p hp => h.len p (List.mem_of_mem_take hp), h.nodup.sublist ((List.take_sublist k ps).map _)⟩
theorem tidy_Dm {ps : List Pr} (h : ∀ p ∈ ps, p.1.length = 128) : Tidy (Dm ps) := by
  induction ps using snoc_ind with
  | h0 => exact tidy_empty
  | h1 l a ih =>
    rw [Dm_snoc]
    exact (ih fun p hp => h p (by simp [hp])).put (bkey_key (h a (by simp))) _
theorem has_Dm {ps : List Pr} (h : ∀ p ∈ ps, p.1.length = 128) {x : List UInt8} (hx : x.length = 128) : Maps.has (Dm ps) (bkey x) = isIn ps x := by
  induction ps using snoc_ind with
  | h0 => rfl
  | h1 l a ih =>
    have ih' := ih fun p hp => h p (by simp [hp])
    have ha := h a (by simp)
    rw [Dm_snoc]
    by_cases e : x = a.1
    · subst e
      rw [has_put_same (tidy_Dm fun p hp => h p (by simp [hp])).isMap (bkey_key ha)]
      simp [isIn]
    · rw [has_put_other (fun e' => e (bkey_inj hx ha e')), ih']
      simp [isIn, Ne.symm e]
theorem seek_snoc (l : List Pr) (a : Pr) (x : List UInt8) (hn : isIn l a.1 = false) : seek (l ++ [a]) x = if x = a.1 then some a.2 else seek l x := by
  unfold seek
  rw [List.find?_append]
  by_cases e : x = a.1
  · subst e
    have : l.find? (fun p => p.1 == a.1) = none := by
      rw [List.find?_eq_none]
      intro p hp
      have := List.any_eq_false.1 hn p hp
      simpa using this
    simp [this]
  · simp [Ne.symm e, e]
theorem at_Dm {ps : List Pr} (h : Good ps) {x : List UInt8} (hx : x.length = 128) : (Dm ps).atKey (bkey x) (pdat 0) = pdat ((seek ps x).getD 0) := by
  induction ps using snoc_ind with
  | h0 => rfl
  | h1 l a ih =>
    obtain ⟨g, ha, hn⟩ := good_snoc.1 h
    rw [Dm_snoc, seek_snoc _ _ _ hn]
    by_cases e : x = a.1
    · subst e
      rw [atKey_put_same (tidy_Dm g.len).isMap (bkey_key ha)]
      simp
    · rw [atKey_put_other (fun e' => e (bkey_inj hx ha e')), ih g, if_neg e]
theorem size_Dm {ps : List Pr} (h : Good ps) : Maps.size (Dm ps) = ps.length := by
  induction ps using snoc_ind with
  | h0 => rfl
  | h1 l a ih =>
    obtain ⟨g, ha, hn⟩ := good_snoc.1 h
    rw [Dm_snoc, size_put (tidy_Dm g.len), has_Dm g.len ha, hn, ih g]
    simp
/-- What a table answers of a block. -/
def printOf (ps : List Pr) (rest : UInt64) (x : List UInt8) : UInt64 := (seek ps x).getD rest
def unlike (ps : List Pr) (rest : UInt64) : Bool := decide ((rest :: ps.map (·.2)).Nodup)
end Go.Proofs.Ytbhajmecaemafaa.Tb
