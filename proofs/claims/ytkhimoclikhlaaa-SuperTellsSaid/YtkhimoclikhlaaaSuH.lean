/- Two supers compared, as values. -/
import Derived.Test.YtkhimoclikhlaaaSuA
import Derived.Laws.StructEq
import Derived.WalkKit
import Derived.ProofKit
namespace Go.Proofs.Ytkhimoclikhlaaa.Su
open Go.RowKit Go.Proofs.Ytkhimoclikhlaaa.Oct Go.Proofs.Ytkhimoclikhlaaa.Sf
set_option linter.unusedVariables false

theorem all_range_ints : ∀ (xs ys : List Int), xs.length = ys.length → ((List.range xs.length).all fun i => xs.getD i 0 == ys.getD i 0) = (xs == ys)
  | [], [], _ => rfl
  | x :: xs, y :: ys, h => by
    have ih := all_range_ints xs ys (by simpa using h)
    rw [List.length_cons, List.range_succ_eq_map, List.all_cons, List.all_map]
    simp only [List.getD_cons_zero, Function.comp_def, List.getD_cons_succ, ih]
    simp [List.cons_beq_cons]
  | [], _ :: _, h => by simp at h
  | _ :: _, [], h => by simp at h
theorem run_equalIn_ints {P : Program} (w : World) (d : Nat) (t e : TypeId) (n : Nat) (k : IntKind) (ht : P.underlying t = some (.array n e)) (he : P.underlying e = some (.int k)) (hsz : ∀ w, (sizeOf e).run P w = .ok 1 w)
    (xs ys : List Int) (hx : xs.length = n) (hy : ys.length = n) :
    (Op.equalIn (d + 2) t (.agg (xs.map (Value.int k)).toArray) (.agg (ys.map (Value.int k)).toArray)).run P w = .ok (xs == ys) w := by
  rw [← all_range_ints xs ys (hx.trans hy.symm), hx, List.range_eq_range', Op.equalIn]
  simp only [Sem.run_bind, run_underlying ht, Result.andThen_ok, hsz, Std.Legacy.Range.forIn_eq_forIn_range', Std.Legacy.Range.size, Nat.sub_zero, Nat.add_sub_cancel, Nat.div_one]
  have hl : ∀ i ∈ List.range' 0 n 1, i < n := fun i hi => by simpa using (List.mem_range'_1.1 hi).2
  generalize List.range' 0 n 1 = l at hl ⊢
  induction l with
  | nil => simp
  | cons i l ih =>
    have hi : i < n := hl i (by simp)
    have px : (part e (xs.map (Value.int k)).toArray (i * 1)).run P w = .ok (Value.int k (xs.getD i 0)) w := by
      simp [part, isAgg, run_underlying he, List.getD, List.getElem?_eq_getElem (show i < xs.length by omega)]
    have py : (part e (ys.map (Value.int k)).toArray (i * 1)).run P w = .ok (Value.int k (ys.getD i 0)) w := by
      simp [part, isAgg, run_underlying he, List.getD, List.getElem?_eq_getElem (show i < ys.length by omega)]
    have pe : (Op.equalIn (d + 1) e (Value.int k (xs.getD i 0)) (Value.int k (ys.getD i 0))).run P w = .ok (xs.getD i 0 == ys.getD i 0) w := run_equalIn_int w d e k k _ _ he
    simp only [List.forIn_cons, Sem.run_bind, px, py, pe, Result.andThen_ok, List.all_cons]
    cases hb : (xs.getD i 0 == ys.getD i 0)
    · simp
    · simp only [Bool.not_true, Bool.false_eq_true, if_false, Sem.run_pure, Result.andThen_ok, Bool.true_and]
      exact ih fun j hj => hl j (by simp [hj])
def rints (s : Sup) : List Int := (List.range 8).map fun i => (nth s (2 + i) : Int)
def mints (s : Sup) : List Int := (List.range 8).map fun i => (nth s (10 + i) : Int)
theorem ints_nth {p : Nat} {s t : Sup} (h : ((List.range 8).map fun i => (nth s (p + i) : Int)) = (List.range 8).map fun i => (nth t (p + i) : Int)) (i : Nat) (hi : i < 8) : nth s (p + i) = nth t (p + i) := by
  have := congrArg (fun l => l[i]?) h
  simp [hi] at this
  omega
theorem sup_beq {s t : Sup} (hs : Ok s) (ht : Ok t) : (((((nth s 0 : Int) == nth t 0) && ((nth s 1 : Int) == nth t 1)) && (rints s == rints t)) && (mints s == mints t)) = (s == t) := by
  rw [Bool.eq_iff_iff]
  simp only [Bool.and_eq_true, beq_iff_eq]
  constructor
  · rintro ⟨⟨⟨h0, h1⟩, h2⟩, h3⟩
    refine sup_ext hs.len ht.len fun j hj => ?_
    by_cases e0 : j = 0
    · subst e0; omega
    · by_cases e1 : j = 1
      · subst e1; omega
      · by_cases e2 : j < 10
        · have := ints_nth h2 (j - 2) (by omega)
          rwa [show 2 + (j - 2) = j by omega] at this
        · have := ints_nth h3 (j - 10) (by omega)
          rwa [show 10 + (j - 10) = j by omega] at this
  · rintro rfl
    exact ⟨⟨⟨rfl, rfl⟩, rfl⟩, rfl⟩
theorem part_roots (s : Sup) : (scells s).toArray.extract 2 10 = ((rints s).map (Value.int .u32)).toArray := rfl
theorem part_marks (s : Sup) : (scells s).toArray.extract 10 18 = ((mints s).map (Value.int .u64)).toArray := rfl
theorem run_eqsup (s t : Sup) (hs : Ok s) (ht : Ok t) (w : World) : (Op.equalIn 10000 27 (.agg (scells s).toArray) (.agg (scells t).toArray)).run Try.prog w = .ok (s == t) w := by
  rw [run_equalIn_struct w 9999 27 _ _ (by unfold Program.fieldsOf; rw [Try.underlying27]) (by kernel_rfl)]
  have r1 := run_equalIn_ints (P := Try.prog) w 9997 24 23 8 .u32 Try.underlying24 Try.underlying23 (fun _ => by kernel_rfl) (rints s) (rints t) rfl rfl
  have r2 := run_equalIn_ints (P := Try.prog) w 9997 25 22 8 .u64 Try.underlying25 Try.underlying22 (fun _ => by kernel_rfl) (mints s) (mints t) rfl rfl
  have r3 := run_equalIn_int (P := Try.prog) w 9998 22 .u64 .u64 (nth s 0 : Int) (nth t 0 : Int) Try.underlying22
  have r4 := run_equalIn_int (P := Try.prog) w 9998 23 .u32 .u32 (nth s 1 : Int) (nth t 1 : Int) Try.underlying23
  have p : ∀ s : Sup, (part 22 (scells s).toArray 0).run Try.prog w = .ok (.int .u64 (nth s 0 : Int)) w ∧ (part 23 (scells s).toArray 1).run Try.prog w = .ok (.int .u32 (nth s 1 : Int)) w ∧
      (part 24 (scells s).toArray 2).run Try.prog w = .ok (.agg ((rints s).map (Value.int .u32)).toArray) w ∧ (part 25 (scells s).toArray 10).run Try.prog w = .ok (.agg ((mints s).map (Value.int .u64)).toArray) w := by
    intro s
    refine ⟨?_, ?_, ?_, ?_⟩
    all_goals kernel_rfl
  unfold Program.fieldsOf
  rw [Try.underlying27]
  rw [← sup_beq hs ht]
  simp only [Op.eqFields]
  obtain ⟨a1, a2, a3, a4⟩ := p s
  obtain ⟨b1, b2, b3, b4⟩ := p t
  simp only [Nat.reduceAdd] at r1 r2 r3 r4
  rw [if_pos (by decide)]
  simp only [Sem.run_bind, a1, b1, r3, Result.andThen_ok]
  cases h0 : ((nth s 0 : Int) == nth t 0) with
  | false => simp
  | true =>
    simp only [Bool.not_true, Bool.false_eq_true, if_false]
    rw [if_pos (by decide)]
    simp only [Sem.run_bind, a2, b2, r4, Result.andThen_ok]
    cases h1 : ((nth s 1 : Int) == nth t 1) with
    | false => simp
    | true =>
      simp only [Bool.not_true, Bool.false_eq_true, if_false]
      rw [if_pos (by decide)]
      simp only [Sem.run_bind, a3, b3, r1, Result.andThen_ok]
      cases h2 : (rints s == rints t) with
      | false => simp
      | true =>
        simp only [Bool.not_true, Bool.false_eq_true, if_false]
        rw [if_pos (by decide)]
        simp only [Sem.run_bind, a4, b4, r2, Result.andThen_ok]
        cases h3 : (mints s == mints t) <;> simp
theorem run_eql_sup (s t : Sup) (hs : Ok s) (ht : Ok t) (w : World) : (binOp .eql 27 (.agg (scells s).toArray) (.agg (scells t).toArray)).run Try.prog w = .ok (.bool (s == t)) w := by
  rw [run_eql_struct, run_eqsup s t hs ht]
  rfl
theorem run_neq_sup (s t : Sup) (hs : Ok s) (ht : Ok t) (w : World) : (binOp .neq 27 (.agg (scells s).toArray) (.agg (scells t).toArray)).run Try.prog w = .ok (.bool (!(s == t))) w := by
  rw [run_neq_struct, run_eqsup s t hs ht]
  rfl
end Go.Proofs.Ytkhimoclikhlaaa.Su
