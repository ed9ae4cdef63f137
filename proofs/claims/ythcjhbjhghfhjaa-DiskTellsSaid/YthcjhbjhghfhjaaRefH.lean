/- The tie between the program's disk and the reference's, as plain states: each answers alike, and the tie is kept. -/
import Derived.Test.YthcjhbjhghfhjaaRefG
import Derived.Test.YthcjhbjhghfhjaaDskV
namespace Go.Proofs.Ythcjhbjhghfhjaa.Dsk
open Go.RowKit Go.Proofs.Ythcjhbjhghfhjaa.Oct
set_option linter.unusedVariables false

theorem last?_append (W V : List (Nat × List UInt8)) (p : Nat) (z : List UInt8) : (last? (W ++ V) p).getD z = (last? V p).getD ((last? W p).getD z) := by
  induction V using snoc_ind with
  | h0 => simp [last?_nil]
  | h1 V x ih =>
    rw [← List.append_assoc, last?_snoc, last?_snoc]
    by_cases h : x.1 = p
    · rw [if_pos h, if_pos h]; rfl
    · rw [if_neg h, if_neg h, ih]

/-- The two tell the same. -/
structure Tie (s : St) (r : Rf) : Prop where
  n : r.N = (s.n : Int)
  down : s.gone = r.down
  arm : s.armed = true → r.left = (s.left : Int)
  free : s.armed = false → r.left = -1
  waits : s.W = r.waits
  stand : ∀ p, p < s.n → s.stand p = r.stands p

theorem Tie.can {s : St} {r : Rf} (h : Tie s r) : s.can = r.can := by
  unfold St.can Rf.can
  cases ha : s.armed with
  | false =>
    have := h.free ha
    rw [this]
    rfl
  | true =>
    have := h.arm ha
    rw [this]
    simp only [Bool.true_and]
    congr 1
    by_cases h0 : s.left = 0
    · rw [h0]; rfl
    · rw [beq_eq_false_iff_ne.2 h0, beq_eq_false_iff_ne.2 (by omega)]
theorem Tie.spent {s : St} {r : Rf} (h : Tie s r) : Tie s.spent r.spent := by
  have hs := spent_frame r
  have hst : ∀ p, r.spent.stands p = r.stands p := fun p => by unfold Rf.stands; rw [hs.1]
  have hn : s.spent.n = s.n := rfl
  have hW : s.spent.W = s.W := rfl
  have hS : ∀ p, s.spent.stand p = s.stand p := fun _ => rfl
  cases ha : s.armed with
  | false =>
    have hf := h.free ha
    have hr : r.spent = r := by unfold Rf.spent; rw [if_neg (by omega), if_neg (by omega)]
    refine ⟨by rw [hr]; exact h.n, by rw [hr]; simp [St.spent, ha, h.down], fun k => by simp [St.spent, ha] at k, fun _ => by rw [hr]; exact hf, by rw [hr]; exact h.waits, fun p hp => by rw [hr]; exact h.stand p hp⟩
  | true =>
    have hl := h.arm ha
    by_cases h0 : s.left = 0
    · have hr : r.spent = { r with left := -1, down := true } := by unfold Rf.spent; rw [if_pos (by omega)]
      refine ⟨by rw [hs.2.2]; exact h.n, by rw [hr]; simp [St.spent, ha, h0], fun k => by simp [St.spent, ha, h0] at k, fun _ => by rw [hr], by rw [hs.2.1]; exact h.waits, fun p hp => by rw [hst]; exact h.stand p hp⟩
    · have hr : r.spent = { r with left := r.left - 1 } := by unfold Rf.spent; rw [if_neg (by omega), if_pos (by omega)]
      refine ⟨by rw [hs.2.2]; exact h.n, by rw [hr]; simp [St.spent, ha, h0, h.down], fun _ => ?_, fun k => by simp [St.spent, ha, h0] at k, by rw [hs.2.1]; exact h.waits, fun p hp => by rw [hst]; exact h.stand p hp⟩
      rw [hr]
      simp [St.spent, ha]
      omega

theorem Tie.write {s : St} {r : Rf} (h : Tie s r) (p : Int) (bs : List UInt8) : (s.doWrite p bs).1 = (r.doWrite p bs).1 ∧ Tie (s.doWrite p bs).2 (r.doWrite p bs).2 := by
  unfold St.doWrite Rf.doWrite
  rw [h.down, h.n, h.can]
  by_cases h1 : r.down = true
  · rw [if_pos h1, if_pos h1]; exact ⟨rfl, h⟩
  · rw [if_neg h1, if_neg h1]
    by_cases h2 : 0 ≤ p ∧ p < (s.n : Int)
    · have e2 : ¬ ¬ (0 ≤ p ∧ p < (s.n : Int)) := fun k => k h2
      rw [if_neg e2, if_neg e2]
      by_cases h3 : bs.length ≠ 128
      · rw [if_pos h3, if_pos h3]; exact ⟨rfl, h⟩
      · rw [if_neg h3, if_neg h3]
        by_cases h4 : r.can = false
        · rw [if_pos h4, if_pos h4]; exact ⟨rfl, h.spent⟩
        · rw [if_neg h4, if_neg h4]
          have k := h.spent
          have hs := spent_frame r
          exact ⟨rfl, k.n, k.down, k.arm, k.free, by show s.spent.W ++ _ = _; rw [k.waits, hs.2.1], fun q hq => k.stand q hq⟩
    · rw [if_pos h2, if_pos h2]; exact ⟨rfl, h⟩
theorem Tie.armed {s : St} {r : Rf} (h : Tie s r) (n : Int) : (s.doArm n).1 = (r.doArm n).1 ∧ Tie (s.doArm n).2 (r.doArm n).2 := by
  unfold St.doArm Rf.doArm
  rw [h.down]
  by_cases h1 : r.down = true
  · rw [if_pos h1, if_pos h1]; exact ⟨rfl, h⟩
  · rw [if_neg h1, if_neg h1]
    by_cases h2 : n < 0
    · rw [if_pos h2, if_pos h2]; exact ⟨rfl, h⟩
    · rw [if_neg h2, if_neg h2]
      refine ⟨rfl, h.n, ?_, fun _ => ?_, fun k => ?_, h.waits, fun q hq => h.stand q hq⟩
      · show false = r.down
        cases hd : r.down
        · rfl
        · exact absurd hd h1
      · show n = ((n.toNat : Nat) : Int)
        omega
      · cases k
theorem Tie.flush {s : St} {r : Rf} (h : Tie s r) (hl : s.B.length = s.n * 128) (hw : ∀ x, x ∈ s.W → x.1 < s.n ∧ x.2.length = 128) : s.doFlush.1 = r.doFlush.1 ∧ Tie s.doFlush.2 r.doFlush.2 := by
  unfold St.doFlush Rf.doFlush
  rw [h.down, h.can]
  by_cases h1 : r.down = true
  · rw [if_pos h1, if_pos h1]; exact ⟨rfl, h⟩
  · rw [if_neg h1, if_neg h1]
    by_cases h4 : r.can = false
    · rw [if_pos h4, if_pos h4]; exact ⟨rfl, h.spent⟩
    · rw [if_neg h4, if_neg h4]
      have k := h.spent
      have lf := laid_frame s.spent (fun _ => 128) s.W.length
      refine ⟨rfl, ?_, ?_, ?_, ?_, rfl, fun q hq => ?_⟩
      · show r.spent.N = ((laid s.spent (fun _ => 128) s.W.length).n : Int)
        rw [lf.1]; exact k.n
      · show (laid s.spent (fun _ => 128) s.W.length).gone = r.spent.down
        rw [lf.2.2.1]; exact k.down
      · intro ha
        have ha' : s.spent.armed = true := by rw [← lf.2.2.2.1]; exact ha
        show r.spent.left = ((laid s.spent (fun _ => 128) s.W.length).left : Int)
        rw [lf.2.2.2.2]; exact k.arm ha'
      · intro ha
        exact k.free (by rw [← lf.2.2.2.1]; exact ha)
      · have hq' : q < s.spent.n := by rw [← lf.1]; exact hq
        show (laid s.spent (fun _ => 128) s.spent.W.length).stand q = _
        rw [stand_whole s.spent _ _ hl hw (fun _ _ => Nat.le_refl _) q hq' (Nat.le_refl _)]
        show (last? (s.W.take s.W.length) q).getD (s.spent.stand q) = (last? (r.came ++ r.waits) q).getD zeros
        rw [List.take_length, last?_append, h.waits]
        congr 1
        exact h.stand q hq'
theorem Tie.says {s : St} {r : Rf} (h : Tie s r) (p : Nat) (hp : p < s.n) : s.says p = r.says p := by
  unfold St.says Rf.says
  rw [h.waits, h.stand p hp]
theorem Tie.read {s : St} {r : Rf} (h : Tie s r) (p : Int) : s.doRead p = r.doRead p := by
  unfold St.doRead Rf.doRead
  rw [h.down, h.n]
  by_cases h1 : r.down = true
  · rw [if_pos h1, if_pos h1]
  · rw [if_neg h1, if_neg h1]
    by_cases h2 : 0 ≤ p ∧ p < (s.n : Int)
    · have e2 : ¬ ¬ (0 ≤ p ∧ p < (s.n : Int)) := fun k => k h2
      rw [if_neg e2, if_neg e2, h.says p.toNat (by omega)]
    · rw [if_pos h2, if_pos h2]
theorem Tie.places {s : St} {r : Rf} (h : Tie s r) : s.places = r.places := by
  unfold St.places Rf.places
  rw [h.waits]

/-- The reference's disk behind a crash, as far as write k: f tells how many bytes of each went through. -/
def rlaid (r : Rf) (f : Nat → Nat) : Nat → Rf
  | 0 => r
  | k + 1 => match r.waits[k]? with
    | some x => { rlaid r f k with came := (rlaid r f k).came ++ [(x.1, x.2.take (f k) ++ ((rlaid r f k).stands x.1).drop (f k))] }
    | none => rlaid r f k
theorem rlaid_frame (r : Rf) (f : Nat → Nat) (k : Nat) : (rlaid r f k).N = r.N ∧ (rlaid r f k).waits = r.waits := by
  induction k with
  | zero => exact ⟨rfl, rfl⟩
  | succ k ih =>
    unfold rlaid
    split
    · exact ih
    · exact ih
theorem tie_laid {s : St} {r : Rf} (hW : s.W = r.waits) (hl : s.B.length = s.n * 128) (hw : ∀ x, x ∈ s.W → x.1 < s.n ∧ x.2.length = 128) (hs : ∀ p, p < s.n → s.stand p = r.stands p) (f : Nat → Nat) (hf : ∀ i, f i ≤ 128) (k : Nat) :
    ∀ p, p < s.n → (laid s f k).stand p = (rlaid r f k).stands p := by
  induction k with
  | zero => exact hs
  | succ k ih =>
    intro p hp
    have hn := (laid_frame s f k).1
    unfold laid rlaid
    rw [hW]
    cases hx : r.waits[k]? with
    | none => exact ih p hp
    | some x =>
      have hm : x ∈ s.W := by rw [hW]; exact List.mem_of_getElem? hx
      obtain ⟨hx1, hx2⟩ := hw x hm
      have hfk := hf k
      have hcl : (x.2.take (f k)).length = f k := by rw [List.length_take]; omega
      have hll := laid_len s f k hl hw
      show ((laid s f k).lay x.1 (x.2.take (f k))).stand p = (last? ((rlaid r f k).came ++ [(x.1, x.2.take (f k) ++ ((rlaid r f k).stands x.1).drop (f k))]) p).getD zeros
      rw [last?_snoc]
      by_cases hpx : x.1 = p
      · subst hpx
        rw [if_pos rfl, stand_lay_same _ _ _ (by rw [hn]; exact hll) (by rw [hn]; exact hx1) (by omega), hcl, ih x.1 hx1]
        rfl
      · rw [if_neg hpx, stand_lay_other _ _ _ _ (by rw [hn]; exact hll) (by rw [hn]; exact hx1) (by omega) hpx (by rw [hn]; exact hp)]
        exact ih p hp
def Rf.crashed (r : Rf) (ks : List Bool) (torn : Int) (cut : Nat) : Rf := { rlaid r (thr ks torn cut) r.waits.length with waits := [], left := -1, down := false }
def Rf.doCrash (r : Rf) (ks : List Bool) (torn cut : Int) : Int × Rf := if ¬ (0 ≤ cut ∧ cut ≤ 128) then (2, r) else (0, r.crashed ks torn cut.toNat)
theorem Tie.crash {s : St} {r : Rf} (h : Tie s r) (hl : s.B.length = s.n * 128) (hw : ∀ x, x ∈ s.W → x.1 < s.n ∧ x.2.length = 128) (ks : List Bool) (torn cut : Int) (ht : cut ≤ 128 → ∀ i, thr ks torn cut.toNat i ≤ 128) :
    (s.doCrash ks torn cut).1 = (r.doCrash ks torn cut).1 ∧ Tie (s.doCrash ks torn cut).2 (r.doCrash ks torn cut).2 := by
  unfold St.doCrash Rf.doCrash
  by_cases h2 : 0 ≤ cut ∧ cut ≤ 128
  · have e2 : ¬ ¬ (0 ≤ cut ∧ cut ≤ 128) := fun k => k h2
    rw [if_neg e2, if_neg e2]
    have lf := laid_frame s (thr ks torn cut.toNat) s.W.length
    refine ⟨rfl, ?_, rfl, (fun k => by cases k), fun _ => rfl, rfl, fun q hq => ?_⟩
    · show (rlaid r (thr ks torn cut.toNat) r.waits.length).N = ((laid s (thr ks torn cut.toNat) s.W.length).n : Int)
      rw [lf.1, (rlaid_frame _ _ _).1]; exact h.n
    · have hq' : q < s.n := by rw [← lf.1]; exact hq
      show (laid s (thr ks torn cut.toNat) s.W.length).stand q = (rlaid r (thr ks torn cut.toNat) r.waits.length).stands q
      rw [h.waits]
      exact tie_laid h.waits hl hw h.stand _ (ht h2.2) r.waits.length q hq'
  · rw [if_pos h2, if_pos h2]; exact ⟨rfl, h⟩
end Go.Proofs.Ythcjhbjhghfhjaa.Dsk
