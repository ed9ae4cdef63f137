/- Lists of pairs, and of slices of bytes, that the law itself makes, by append. -/
import Derived.Test.YtbhajmecaemafaaTbG
namespace Go.Proofs.Ytbhajmecaemafaa.Tb
open Go.RowKit Go.Proofs.Ytbhajmecaemafaa.Oct
set_option linter.unusedVariables false

/-! ### Pairs -/
def OwnP (w : World) (base : Nat) (v : Value) (l : List Pair) : Prop := w.ownsRow base 28 2 v l.length (pvals l)
theorem OwnP.bare (w : World) (base : Nat) : OwnP w base (.slice none 0 0) [] := ⟨by simp [pvals], .inl ⟨rfl, rfl⟩⟩
theorem own_bare (w : World) : OwnP (w.alloc (.cells #[] 28)) w.heap.size (.slice (some ⟨w.heap.size, 0, none⟩) 0 0) [] := World.ownsRow_made w #[] 0 (Nat.le_refl _) (Nat.zero_le _) rfl
theorem pair_info : (Try.prog.info? 28).map (fun i => (i.zero, i.size, i.bytes)) = some (some (.agg #[.slice none 0 0, .int .u64 0]), 2, 32) := by kernel_rfl
theorem pvals_one (l : List Pair) : ∀ u ∈ pvals l, u.oneCell' = true := by
  induction l with
  | nil => intro u hu; cases hu
  | cons p l ih =>
    intro u hu
    simp only [pvals, List.mem_cons] at hu
    rcases hu with rfl | rfl | hu
    · rfl
    · rfl
    · exact ih u hu
theorem OwnP.kept {w w' : World} {base B : Nat} {v : Value} {l : List Pair} (h : OwnP w base v l) (k : Below B w w') (hB : w.heap.size ≤ B) : OwnP w' base v l := by
  refine ⟨h.1, ?_⟩
  rcases h.2 with hn | ⟨g, cap, cur, rfl, hb, hgg, rest⟩
  · exact .inl hn
  · refine .inr ⟨g, cap, cur, rfl, hb, ?_, rest⟩
    rw [k.block g (Nat.lt_of_lt_of_le (Array.getElem?_eq_some_iff.1 hgg).1 hB)]
    exact hgg
/-- It reads as a slice of pairs that came in does. -/
theorem OwnP.pin {w : World} {base : Nat} {v : Value} {l : List Pair} (h : OwnP w base v l) (ok : ∀ p ∈ l, p.Ok w) : ∃ A c, v = .slice A l.length c ∧ PIn w A l.length c l := by
  rcases h.2 with ⟨rfl, h0⟩ | ⟨g, cap, cur, rfl, hb, hg, hn, hm, hs, ht⟩
  · have : l = [] := List.eq_nil_of_length_eq_zero h0
    subst this
    exact ⟨none, 0, rfl, rfl, Nat.le_refl _, Nat.zero_le _, by simp, .inl rfl, fun _ => rfl⟩
  · refine ⟨_, cap, rfl, rfl, hn, hm, ok, HasV.told (b := g) (o := 0) fun i hi => ?_, fun e => by cases e⟩
    rw [Nat.zero_add]
    have := World.ownsRow.cellAt h i (by rw [length_pvals] at hi; omega)
    rw [this]
    simp [hi]
theorem run_append_pairs (w : World) (ty : TypeId) (base : Nat) (v : Value) (xs ys : List Pair) (hown : OwnP w base v xs) (A : Option Addr) (m c : Nat) (hl : ys.length = m) (hT : ToldV w A (pvals ys)) (hnil : A = none → c = 0)
    (hsz : xs.length + m ≤ 1000000) (hbase : base ≤ w.heap.size) :
    ∃ v' w', (Builtin.append_ #[22, 22] ty #[v, .slice A m c]).run Try.prog w = .ok v' w' ∧ OwnP w' base v' (xs ++ ys) ∧ w.grownBy w' v.ownBlock ∧ Below base w w' := by
  obtain ⟨i0, hi, hz0, hz1, hz2⟩ := info_parts pair_info
  cases A with
  | none =>
    have hy : ys = [] := by
      rcases hT with h | ⟨b, o, h, _⟩
      · cases ys with
        | nil => rfl
        | cons p l => simp [pvals] at h
      · cases h
    subst hy
    obtain rfl : m = 0 := by simpa using hl.symm
    rw [hnil rfl]
    exact ⟨v, w, run_append_owned_none (P := Try.prog) (w := w) base 22 ty 28 i0 2 Try.underlying22 hi v _ _ hown, by simpa using hown, ⟨rfl, rfl, rfl, Nat.le_refl _, fun _ _ _ => rfl⟩, Below.refl _ _⟩
  | some x =>
    have hnews : ∀ j u, (pvals ys)[j]? = some u → w.cell? (x.add j) = some u := fun j u hj => by
      rcases hT with h | ⟨b, o, h, k⟩
      · rw [h] at hj; simp at hj
      · cases h
        rw [add_plain]
        exact k.cellAt hj
    obtain ⟨v', w', hr, ho, hg, _⟩ := run_append_own (P := Try.prog) w base 22 ty 28 i0 (.agg #[.slice none 0 0, .int .u64 0]) 2 32 Try.underlying22 hi hz0 hz1 hz2 rfl (by omega) v xs.length (pvals xs) hown x m c (pvals ys)
      (by rw [length_pvals, hl, Nat.mul_comm]) hnews (pvals_one ys) (by unfold maxLen; omega) (by omega) hbase
    refine ⟨v', w', hr, ?_, hg, ⟨hg.os, hg.tape, hg.output, hg.size, fun k hk => hg.block k (by omega) (fun e => ?_)⟩⟩
    · unfold OwnP
      rw [List.length_append, hl, pvals_append]
      exact ho
    · have := (World.ownsRow.lt hown k e.symm).1
      omega
/-- One pair more, out of a slice of one that was just made. -/
theorem push_pair (w : World) (ty : TypeId) (base : Nat) (v : Value) (xs : List Pair) (hown : OwnP w base v xs) (A : Option Addr) (n c : Nat) (bs : List UInt8) (pr : UInt64) (z : Int) (hz : z = (pr.toNat : Int)) (hsz : xs.length ≤ 100000) (hbase : base ≤ w.heap.size) :
    ∃ v' w', (Builtin.append_ #[22, 22] ty #[v, .slice (some ⟨w.heap.size, 0, none⟩) 1 1]).run Try.prog (w.alloc (.cells #[.slice A n c, .int .u64 z] 28)) = .ok v' w' ∧
      OwnP w' base v' (xs ++ [⟨A, n, c, bs, pr⟩]) ∧ w.grownBy w' v.ownBlock ∧ Below base w w' := by
  subst hz
  have kk := (Below.refl w.heap.size w).alloc (Nat.le_refl _) (.cells #[.slice A n c, .int .u64 (pr.toNat : Int)] 28)
  have hT : ToldV (w.alloc (.cells #[.slice A n c, .int .u64 (pr.toNat : Int)] 28)) (some ⟨w.heap.size, 0, none⟩) (pvals [⟨A, n, c, bs, pr⟩]) := (alloc_rowV w 28 (pvals [⟨A, n, c, bs, pr⟩])).has.told
  obtain ⟨v', w', hr, ho, hg, hb⟩ := run_append_pairs _ ty base v xs [⟨A, n, c, bs, pr⟩] (hown.kept kk (Nat.le_refl _)) _ 1 1 rfl hT (fun e => by cases e) (by omega) (Nat.le_trans hbase kk.size)
  exact ⟨v', w', hr, ho, (World.grownBy_alloc w _ none).but _ |>.andThen hg (fun j hj => .inr hj), (kk.mono hbase).trans hb⟩

/-! ### Slices of bytes -/
def OwnB (w : World) (base : Nat) (v : Value) (l : List Part) : Prop := w.ownsRow base 26 1 v l.length (bvals l)
theorem part_info : (Try.prog.info? 26).map (fun i => (i.zero, i.size, i.bytes)) = some (some (.slice none 0 0), 1, 24) := by kernel_rfl
theorem bvals_one (l : List Part) : ∀ u ∈ bvals l, u.oneCell' = true := by
  intro u hu
  simp [bvals] at hu
  obtain ⟨p, _, rfl⟩ := hu
  rfl
theorem OwnB.lit (w : World) (A : Option Addr) (n c : Nat) (bs : List UInt8) : OwnB (w.alloc (.cells #[.slice A n c] 26)) w.heap.size (.slice (some ⟨w.heap.size, 0, none⟩) 1 1) [⟨A, n, c, bs⟩] :=
  World.ownsRow_lit w #[.slice A n c] 1 (Nat.le_refl _) (by decide) rfl
theorem OwnB.kept {w w' : World} {base B : Nat} {v : Value} {l : List Part} (h : OwnB w base v l) (k : Below B w w') (hB : w.heap.size ≤ B) : OwnB w' base v l := by
  refine ⟨h.1, ?_⟩
  rcases h.2 with hn | ⟨g, cap, cur, rfl, hb, hgg, rest⟩
  · exact .inl hn
  · refine .inr ⟨g, cap, cur, rfl, hb, ?_, rest⟩
    rw [k.block g (Nat.lt_of_lt_of_le (Array.getElem?_eq_some_iff.1 hgg).1 hB)]
    exact hgg
theorem OwnB.bin {w : World} {base : Nat} {v : Value} {l : List Part} (h : OwnB w base v l) (ok : ∀ p ∈ l, p.Ok w) : ∃ A c, v = .slice A l.length c ∧ BIn w A l.length c l := by
  rcases h.2 with ⟨rfl, h0⟩ | ⟨g, cap, cur, rfl, hb, hg, hn, hm, hs, ht⟩
  · have : l = [] := List.eq_nil_of_length_eq_zero h0
    subst this
    exact ⟨none, 0, rfl, rfl, Nat.le_refl _, Nat.zero_le _, by simp, .inl rfl, fun _ => rfl⟩
  · refine ⟨_, cap, rfl, rfl, hn, hm, ok, HasV.told (b := g) (o := 0) fun i hi => ?_, fun e => by cases e⟩
    rw [Nat.zero_add]
    have := World.ownsRow.cellAt h i (by rw [length_bvals] at hi; omega)
    rw [this]
    simp [hi]
theorem push_part (w : World) (ty : TypeId) (base : Nat) (v : Value) (xs : List Part) (hown : OwnB w base v xs) (A : Option Addr) (n c : Nat) (bs : List UInt8) (hsz : xs.length ≤ 100000) (hbase : base ≤ w.heap.size) :
    ∃ v' w', (Builtin.append_ #[24, 24] ty #[v, .slice (some ⟨w.heap.size, 0, none⟩) 1 1]).run Try.prog (w.alloc (.cells #[.slice A n c] 26)) = .ok v' w' ∧
      OwnB w' base v' (xs ++ [⟨A, n, c, bs⟩]) ∧ w.grownBy w' v.ownBlock ∧ Below base w w' := by
  obtain ⟨i0, hi, hz0, hz1, hz2⟩ := info_parts part_info
  have kk := (Below.refl w.heap.size w).alloc (Nat.le_refl _) (.cells #[.slice A n c] 26)
  have hT := (alloc_rowV w 26 (bvals [⟨A, n, c, bs⟩])).has
  have hown' := hown.kept kk (Nat.le_refl _)
  obtain ⟨v', w', hr, ho, hg, _⟩ := run_append_own (P := Try.prog) (w.alloc (.cells #[.slice A n c] 26)) base 24 ty 26 i0 (.slice none 0 0) 1 24 Try.underlying24 hi hz0 hz1 hz2 rfl (by omega) v xs.length (bvals xs) hown' ⟨w.heap.size, 0, none⟩ 1 1 (bvals [⟨A, n, c, bs⟩])
    rfl (fun j u hj => by rw [add_plain]; exact hT.cellAt hj) (bvals_one _) (by unfold maxLen; omega) (by omega) (Nat.le_trans hbase kk.size)
  refine ⟨v', w', hr, ?_, (World.grownBy_alloc w _ none).but _ |>.andThen hg (fun j hj => .inr hj), (kk.mono hbase).trans ⟨hg.os, hg.tape, hg.output, hg.size, fun k hk => hg.block k (by have := kk.size; omega) (fun e => ?_)⟩⟩
  · unfold OwnB
    rw [List.length_append, show bvals (xs ++ [⟨A, n, c, bs⟩]) = bvals xs ++ bvals [⟨A, n, c, bs⟩] by simp [bvals]]
    exact ho
  · have := (World.ownsRow.lt hown' k e.symm).1
    omega
end Go.Proofs.Ytbhajmecaemafaa.Tb
