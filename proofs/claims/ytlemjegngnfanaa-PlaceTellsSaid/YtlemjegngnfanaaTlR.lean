/- TallyBack's walk. (Written by bin/gen_tlback.py.) -/
import Derived.Test.YtlemjegngnfanaaTlQ
import Derived.Test.YtlemjegngnfanaaTlM
namespace Go.Proofs.Ytlemjegngnfanaa.Tl
open Go.RowKit Go.Proofs.Ytlemjegngnfanaa.Oct Go.Proofs.Ytlemjegngnfanaa.Mv Go.Maps
set_option linter.unusedVariables false

/-! ### Up, and down again -/
theorem up_ok {s : St} {p : Nat} (hp : p < s.n) (hc : (s.cnt p).toNat < 65535) : s.up (p : Int) = (0, s.put p (s.cnt p + 1)) := by
  unfold St.up
  rw [if_pos ⟨by omega, by omega⟩, Int.toNat_natCast, if_neg]
  intro e
  have := congrArg UInt16.toNat e
  have e2 : (65535 : UInt16).toNat = 65535 := rfl
  omega
theorem cnt_up {s : St} {p : Nat} (hp : p < s.n) (hc : (s.cnt p).toNat < 65535) : ((s.put p (s.cnt p + 1)).cnt p).toNat = (s.cnt p).toNat + 1 := by
  rw [cnt_put hp, if_pos rfl, UInt16.toNat_add]
  show ((s.cnt p).toNat + 1) % 65536 = _
  omega
theorem down_up {s : St} {p : Nat} (hp : p < s.n) (hc : (s.cnt p).toNat < 65535) : (s.put p (s.cnt p + 1)).down (p : Int) = (0, s) := by
  have hcu := cnt_up hp hc
  unfold St.down
  rw [if_pos ⟨by omega, by rw [n_put]; omega⟩, Int.toNat_natCast, if_neg]
  · rw [put_put]
    congr 1
    refine put_same hp (UInt16.toNat_inj.1 ?_)
    rw [UInt16.toNat_sub, hcu]
    show (65536 - 1 + ((s.cnt p).toNat + 1)) % 65536 = _
    have := u16_lt (s.cnt p)
    omega
  · intro e
    have := congrArg UInt16.toNat e
    have e2 : (0 : UInt16).toNat = 0 := rfl
    omega
/-- No count, and no kept one, is more than k. -/
def Most (k : Nat) (s : St) : Prop := ∀ j, (s.cnt j).toNat ≤ k ∧ (s.was j).toNat ≤ k
theorem most_new (n : Nat) : Most 0 (St.new n) := fun j => ⟨by rw [cnt_new]; exact Nat.le_refl _, by rw [was_new]; exact Nat.le_refl _⟩
theorem Most.put {k : Nat} {s : St} (h : Most k s) {p : Nat} (hp : p < s.n) {c : UInt16} (hc : c.toNat ≤ k + 1) : Most (k + 1) (s.put p c) := fun j => by
  rw [cnt_put hp, was_put]
  have := h j
  split <;> omega
theorem Most.more {k : Nat} {s : St} (h : Most k s) {k' : Nat} (hk : k ≤ k') : Most k' s := fun j => by have := h j; omega
theorem Most.did {k : Nat} {s : St} (h : Most k s) (x : Opr) : Most (k + 1) (s.did x) := by
  unfold St.did
  split
  · unfold St.up
    split
    · rename_i hb
      split
      · exact h.more (by omega)
      · rename_i hc
        have hp : spot s.n x.b < s.n := by have := hb.2; omega
        rw [Int.toNat_natCast] at hc ⊢
        refine h.put hp ?_
        have h5 : (s.cnt (spot s.n x.b)).toNat ≠ 65535 := fun e' => hc (UInt16.toNat_inj.1 (by rw [e']; rfl))
        have h6 := u16_lt (s.cnt (spot s.n x.b))
        have h7 := (h (spot s.n x.b)).1
        rw [UInt16.toNat_add]
        show ((s.cnt (spot s.n x.b)).toNat + 1) % 65536 ≤ _
        omega
    · exact h.more (by omega)
  · split
    · unfold St.down
      split
      · rename_i hb
        split
        · exact h.more (by omega)
        · rename_i hc
          have hp : spot s.n x.b < s.n := by have := hb.2; omega
          rw [Int.toNat_natCast] at hc ⊢
          refine h.put hp ?_
          have h5 : (s.cnt (spot s.n x.b)).toNat ≠ 0 := fun e' => hc (UInt16.toNat_inj.1 (by rw [e']; rfl))
          have h6 := u16_lt (s.cnt (spot s.n x.b))
          have h7 := (h (spot s.n x.b)).1
          rw [UInt16.toNat_sub]
          show (65536 - 1 + (s.cnt (spot s.n x.b)).toNat) % 65536 ≤ _
          omega
      · exact h.more (by omega)
    · split
      · exact fun j => ⟨by have := (h j).1; show (s.cnt j).toNat ≤ _; omega, by have := (h j).1; show (s.cnt j).toNat ≤ _; omega⟩
      · exact fun j => ⟨by have := (h j).2; show (s.was j).toNat ≤ _; omega, by have := (h j).2; show (s.was j).toNat ≤ _; omega⟩
theorem did_kept {s : St} {x : Opr} (h : x.what.toNat % 4 ≠ 2) : (s.did x).kept = s.kept := by
  unfold St.did
  split
  · unfold St.up
    split
    · split <;> rfl
    · rfl
  · split
    · unfold St.down
      split
      · split <;> rfl
      · rfl
    · rfl

/-! ### A row of numbers that grows -/
def OwnI (w : World) (base : Nat) (v : Value) (l : List Int) : Prop := w.ownsRow base 3 1 v l.length (l.map (Value.int .i64))
theorem int_info : (Try.prog.info? 3).map (fun i => (i.zero, i.size, i.bytes)) = some (some (.int .i64 0), 1, 8) := by kernel_rfl
theorem own_nil (w : World) (base : Nat) : OwnI w base (.slice none 0 0) [] := ⟨rfl, .inl ⟨rfl, rfl⟩⟩
theorem push_int {w : World} {base : Nat} {v : Value} {l : List Int} (h : OwnI w base v l) {q : Nat} {z : Int} (R : w.cell? ⟨q, 0, none⟩ = some (.int .i64 z)) (ty : TypeId) (hl : l.length ≤ 4096) (hb : base ≤ w.heap.size) :
    ∃ v' w', (Builtin.append_ #[31, 31] ty #[v, .slice (some ⟨q, 0, none⟩) 1 1]).run Try.prog w = .ok v' w' ∧ OwnI w' base v' (l ++ [z]) ∧ Below base w w' := by
  obtain ⟨i0, hi, hz0, hz1, hz2⟩ := info_parts int_info
  obtain ⟨v', w', hr, ho, hg, _⟩ := run_append_own (P := Try.prog) w base 31 ty 3 i0 (.int .i64 0) 1 8 Try.underlying31 hi hz0 hz1 hz2 rfl (by omega) v l.length (l.map (Value.int .i64)) h ⟨q, 0, none⟩ 1 1 [.int .i64 z] rfl
    (fun j u hj => by
      rcases j with _ | j
      · simp at hj
        subst hj
        rw [add_plain]
        exact R
      · simp at hj)
    (fun u hu => by simp at hu; subst hu; rfl) (by unfold maxLen; omega) (by omega) hb
  refine ⟨v', w', hr, ?_, ⟨hg.os, hg.tape, hg.output, hg.size, fun k hk => hg.block k (by omega) (fun e => ?_)⟩⟩
  · unfold OwnI
    rw [List.length_append, List.map_append]
    exact ho
  · have := (World.ownsRow.lt h k e.symm).1
    omega
theorem OwnI.but {w w' : World} {base : Nat} {v : Value} {l : List Int} (h : OwnI w base v l) {p q : Nat} (k : But w w' p q) (hp : p < base) (hq : q < base) : OwnI w' base v l := by
  refine ⟨h.1, ?_⟩
  rcases h.2 with hn | ⟨g, cap, cur, rfl, hb, hgg, rest⟩
  · exact .inl hn
  · refine .inr ⟨g, cap, cur, rfl, hb, ?_, rest⟩
    rw [k.block g (Array.getElem?_eq_some_iff.1 hgg).1 (by omega) (by omega)]
    exact hgg
theorem OwnI.below {w w' : World} {base : Nat} {v : Value} {l : List Int} (h : OwnI w base v l) (k : Below w.heap.size w w') : OwnI w' base v l := by
  refine ⟨h.1, ?_⟩
  rcases h.2 with hn | ⟨g, cap, cur, rfl, hb, hgg, rest⟩
  · exact .inl hn
  · refine .inr ⟨g, cap, cur, rfl, hb, ?_, rest⟩
    rw [k.block g (Array.getElem?_eq_some_iff.1 hgg).1]
    exact hgg
theorem OwnI.slice {w : World} {base : Nat} {v : Value} {l : List Int} (h : OwnI w base v l) (h0 : 0 < l.length) : ∃ g cap, v = .slice (some ⟨g, 0, none⟩) l.length cap ∧ base ≤ g ∧ ∀ i (hi : i < l.length), w.cell? ⟨g, i, none⟩ = some (.int .i64 l[i]) := by
  rcases h.2 with ⟨rfl, e⟩ | ⟨g, cap, cur, rfl, hb, hgg, rest⟩
  · omega
  · refine ⟨g, cap, rfl, hb, fun i hi => ?_⟩
    rw [World.ownsRow.cellAt h i (by omega)]
    simp [hi]
theorem At.under {w w' : World} {a cb mb c : Nat} {s : St} (h : At w a cb mb c s) {B : Nat} (k : Below B w w') (ha : a < B) (hc : cb < B) (hm : mb < B) : At w' a cb mb c s :=
  h.blocks (k.block _ ha) (k.block _ hc) (k.block _ hm)
/-- The counts of all blocks. -/
def St.all (s : St) (k : Nat) : List Int := (List.range k).map fun j => ((s.cnt j).toNat : Int)
theorem length_all (s : St) (k : Nat) : (s.all k).length = k := by simp [St.all]
theorem all_succ (s : St) (k : Nat) : s.all (k + 1) = s.all k ++ [((s.cnt k).toNat : Int)] := by simp [St.all, List.range_succ]
theorem all_at (s : St) {k i : Nat} (h : i < (s.all k).length) : (s.all k)[i] = ((s.cnt i).toNat : Int) := by simp [St.all]

theorem OwnI.all {w : World} {base : Nat} {v : Value} {s : St} {j : Nat} (h : OwnI w base v (s.all j)) (h0 : 0 < j) : ∃ g cap, v = .slice (some ⟨g, 0, none⟩) j cap := by
  obtain ⟨g, cap, rfl, hb, hc⟩ := h.slice (by rw [length_all]; exact h0)
  exact ⟨g, cap, by rw [length_all]⟩
theorem OwnI.cellAll {w : World} {base g cap : Nat} {s : St} {j : Nat} (h : OwnI w base (.slice (some ⟨g, 0, none⟩) j cap) (s.all j)) {i : Nat} (hi : i < j) : w.cell? ⟨g, i, none⟩ = some (.int .i64 ((s.cnt i).toNat : Int)) := by
  obtain ⟨g', cap', e, hb, hc⟩ := h.slice (by rw [length_all]; omega)
  simp only [Value.slice.injEq, Option.some.injEq, Addr.mk.injEq, and_true] at e
  obtain ⟨rfl, _, _⟩ := e
  rw [hc i (by rw [length_all]; exact hi), all_at]
theorem OwnI.still {w w' : World} {base : Nat} {v : Value} {l : List Int} (h : OwnI w base v l) (k : Still w w') : OwnI w' base v l := h.below (k.below _)
end Go.Proofs.Ytlemjegngnfanaa.Tl

